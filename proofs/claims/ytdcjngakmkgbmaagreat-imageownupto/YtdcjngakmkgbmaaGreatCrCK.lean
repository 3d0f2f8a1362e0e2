/- The document's image: what an instruction may have; no statement of the seat is proved here. -/
import Derived.Test.YtdcjngakmkgbmaaGreatCrBK
namespace Go.Proofs.YtdcjngakmkgbmaaGreat
set_option linter.unusedVariables false
open Go.RowKit
set_option maxRecDepth 20000 in
set_option maxHeartbeats 8000000 in
theorem ofR_2 (cd : Int) (f : FlR) (x1 x2 : Option Addr) (p1 p2 : Nat) (cs : Int) (w : World) (hc : cd = 9 ∨ cd = 10 ∨ cd = 11 ∨ cd = 12 ∨ cd = 13 ∨ cd = 14 ∨ cd = 15) (hr : 0 ≤ f.rg ∧ f.rg ≤ 8) (hs : 0 ≤ f.sl ∧ f.sl ≤ 1024) (hn : f.os.length ≤ 1048576) (hq : 0 ≤ cs ∧ cs ≤ 1048576) : RlOk cd f x1 x2 p1 p2 cs w := by
  unfold RlOk
  obtain ⟨nm, wh, ce, ba, rg, sl, os, ls⟩ := f
  simp only at hr hs hn
  have e1 : wrap64 (rg - 1) = rg - 1 := by unfold wrap64; omega
  have e2 : wrap64 (sl - 1) = sl - 1 := by unfold wrap64; omega
  have e3 : wrap64 ((os.length : Int) - 1) = (os.length : Int) - 1 := by unfold wrap64; omega
  have e4 : wrap64 (cs - 1) = cs - 1 := by unfold wrap64; omega
  clear hr hs hn hq
  rcases hc with rfl | rfl | rfl | rfl | rfl | rfl | rfl
  all_goals
    go_enter Tryz.func84, Tryz.ntmps84
    go_wp2
    refine bodyPost_ret (v := rlV _ _) ?_ rfl ⟨rfl, by go_grown⟩
    unfold rlV spO bdK
    simp [results, Tryz.results84, go_sem]
end Go.Proofs.YtdcjngakmkgbmaaGreat
