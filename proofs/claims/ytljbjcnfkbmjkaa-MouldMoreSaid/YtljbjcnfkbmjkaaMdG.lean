/- mould.closed's closure: contract. -/
import Derived.Test.YtljbjcnfkbmjkaaMdF
namespace Go.Proofs.Ytljbjcnfkbmjkaa
open Go.RowKit Go.Shelf Go.Maps
attribute [local go_sem] Oper.semAt_some

set_option maxRecDepth 100000 in
set_option maxHeartbeats 1000000 in
theorem closedF_any {w : World} {m : Md} {o : List Int} {b c B1 B2 : Nat} {n : Int} (h1 : Blk w B1 106 #[.map (some b), .map (some c)]) (h2 : Blk w B2 88 #[.int .i64 m.rings, .int .i64 m.give, .int .i64 m.plo, .int .i64 m.phi, .int .i64 m.wlo, .int .i64 m.whi, .int .i64 m.st, .int .i64 m.shrink, .int .i64 m.skin, .int .i64 m.fill, .int .i64 m.gap, .int .i64 m.deep]) (hm : MapAt w b o) (hl : o.length ≤ 8) :
    Calls Try.prog 92 #[.int .i64 n, .pointer (some ⟨B1, 0, none⟩), .pointer (some ⟨B2, 0, none⟩)] w fun e w' => e = .returned (.bool (shut m o n)) ∧ Below w.heap.size w w' := by
  have HC := Lib.hid (fun W (hb : Below w.heap.size w W) => skin_any (n := n) (hm.on hb) hl)
  have HL := Lib.hid (show ∀ W, Below w.heap.size w W → W.cell? ⟨B1, 0, none⟩ = some (.map (some b)) ∧ W.cell? ⟨B2, 8, none⟩ = some (.int .i64 m.skin) ∧ Below w.heap.size w W from fun W hb => ⟨(h1.on hb).cell 0, (h2.on hb).cell 8, hb⟩)
  clear h1 h2 hm
  unfold shut
  generalize setN o n = z at *
  go_enter Try.func92, Try.ntmps92
  go_wp2_with fail
  go_region_held3 (fun W => W.cell? ⟨B1, 0, none⟩ = some (.map (some b)) ∧ W.cell? ⟨B2, 8, none⟩ = some (.int .i64 m.skin) ∧ Below w.heap.size w W)
    (first | assumption | exact HL.out _ (Below.refl _ _).drew | (refine HL.out _ ?_; first | assumption | (go_split_ands; first | assumption | exact Below.drew (by assumption) | exact below_drewN' (by assumption) _ | (refine Below.trans (by assumption) (Below.mono (by assumption) (Below.size (by assumption)))))))
    (first | (go_at_call 72; go_split_ands; (with_reducible refine (HC.out _ (by assumption)).mono ?_); rintro e w1 ⟨rfl, hb1⟩) | fail)
  rename_i hfin
  obtain ⟨-, -, hbw⟩ := hfin
  have HBW := Lib.hid hbw
  clear hbw
  go_wp2_with fail
  refine bodyPost_ret (v := .bool (decide (z > m.skin))) (by simp [results, Try.results92, go_sem]) rfl ⟨rfl, HBW.out⟩
end Go.Proofs.Ytljbjcnfkbmjkaa
