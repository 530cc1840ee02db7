/- WickSizes: the law, for any shop, candle and numbers. -/
import Derived.Test.YtkjfommdeljefaaS2
namespace Go.Proofs.Ytkjfommdeljefaa
open Go.RowKit Go.Shelf Go.Maps
attribute [local go_sem] Oper.semAt_some


theorem lsizes_any {w : World} {p : Sp} (c : Cd) {y0 y1 : Int} (h : ShIn w p) (hy0 : 0 ≤ y0 ∧ y0 ≤ 65535) (hy1 : 0 ≤ y1 ∧ y1 ≤ 65535) :
    Calls Try.prog 10 #[.agg #[.slice p.ka p.s.ks.length p.kc, .slice p.xa p.s.xs.length p.xc, .int .i64 p.s.flo, .int .i64 p.s.fhi, .int .i64 p.s.plo, .int .i64 p.s.phi], .agg #[.int .i64 c.wax, .int .i64 c.dia, .int .i64 c.dra, .int .i64 c.clo, .int .i64 c.chi], .agg #[.int .u16 y0, .int .u16 y1]] w fun e w' => e = .returned (.bool true) ∧ Below w.heap.size w w' := by
  by_cases he : askCE p.s c = 0
  · obtain ⟨x, ha⟩ := askC_of he
    have hk := ha.sh.nk
    have hl : 0 < p.s.ks.length := by omega
    have hq0 : 0 ≤ y0 % (p.s.ks.length : Int) := Int.emod_nonneg _ (by omega)
    have hq1 : y0 % (p.s.ks.length : Int) < p.s.ks.length := Int.emod_lt_of_pos _ (by omega)
    have hlt : (y0 % (p.s.ks.length : Int)).toNat < p.s.ks.length := by omega
    have hd0 : 0 ≤ y1 % 2000 := Int.emod_nonneg _ (by decide)
    have hd1 : y1 % 2000 < 2000 := Int.emod_lt_of_pos _ (by decide)
    have hki : p.s.ks[(y0 % (p.s.ks.length : Int)).toNat]? = some (p.s.ks[(y0 % (p.s.ks.length : Int)).toNat]'hlt) := List.getElem?_eq_getElem hlt
    generalize p.s.ks[(y0 % (p.s.ks.length : Int)).toNat]'hlt = k at *
    have hsh : shopE p.s = 0 := by
      unfold askCE at he
      rw [orE_zero] at he
      exact he _ (by simp)
    have hask : Ask p.s (y0 % (p.s.ks.length : Int)) c k x := ⟨ha.sh, hq0, hki, ha.hx, ha.cd⟩
    have hd : 1 ≤ 1 + y1 % 2000 ∧ 1 + y1 % 2000 ≤ 2000 := by omega
    have hask2 : Ask p.s (y0 % (p.s.ks.length : Int)) (cdD c (1 + y1 % 2000)) k x := ⟨ha.sh, hq0, hki, ha.hx, ⟨ha.cd.wax, hd, ha.cd.dra, ha.cd.cold⟩⟩
    have C0 := Lib.hid (fun (W : World) (hW : Below w.heap.size w W) => rcandle_any c (h.on hW))
    rw [he] at C0
    have C1 := Lib.hid (fun (W : World) (hW : Below w.heap.size w W) => psizes_ok (h.on hW) hask (hask.ask hsh))
    have C2 : Hid (∀ W, Below w.heap.size w W → Calls Try.prog 23 #[.agg #[.slice p.ka p.s.ks.length p.kc, .slice p.xa p.s.xs.length p.xc, .int .i64 p.s.flo, .int .i64 p.s.fhi, .int .i64 p.s.plo, .int .i64 p.s.phi], .int .i64 (y0 % (p.s.ks.length : Int)), .agg #[.int .i64 c.wax, .int .i64 (1 + y1 % 2000), .int .i64 c.dra, .int .i64 c.clo, .int .i64 c.chi]] W (ListOut W (faultsL p.s k x (cdD c (1 + y1 % 2000))))) := fun W hW => faults_ok (h.on hW) hask2 (hask2.ask hsh)
    have hM := sizes_law (s := p.s) (k := k) (x := x) (c := c) (d := 1 + y1 % 2000) ⟨ha.sh.po.1, by have := ha.sh.po; omega⟩ hd
    generalize sizesV p.s k x c = V at *
    have hn : ∀ {L : List Int}, L ≠ [] → ((L.length : Int) == 0) = false := fun {L} hL => by
      have : (L.length : Int) ≠ 0 := fun e => hL (List.eq_nil_of_length_eq_zero (by omega))
      simpa using this
    unfold sizesO at C1
    by_cases hv : V.2 < V.1
    · rw [if_pos hv] at C1
      exact lsizes_z hk.2 hk.1 hy0 hy1 rfl rfl C0 C1 C2 (hn (fun e => (hM.1 e).1 hv))
    · rw [if_neg hv] at C1
      by_cases h1 : V.1 ≤ 1 + y1 % 2000
      · by_cases h2 : 1 + y1 % 2000 ≤ V.2
        · exact lsizes_t hk.2 hk.1 hy0 hy1 rfl rfl C0 C1 C2 h1 h2 (by rw [hM.2 ⟨hv, h1, h2⟩]; rfl)
        · exact lsizes_v hk.2 hk.1 hy0 hy1 rfl rfl C0 C1 C2 h1 (decide_eq_false h2) (hn (fun e => h2 (hM.1 e).2.2))
      · exact lsizes_u hk.2 hk.1 hy0 hy1 rfl rfl C0 C1 C2 (decide_eq_false h1) (hn (fun e => h1 (hM.1 e).2.1))
  · exact lsizes_err h he
end Go.Proofs.Ytkjfommdeljefaa
