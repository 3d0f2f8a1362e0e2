/- The document's image: what an instruction may have; no statement of the seat is proved here. -/
import Derived.Test.YtdcjngakmkgbmaaGreatKoA9
namespace Go.Proofs.YtdcjngakmkgbmaaGreat
set_option linter.unusedVariables false
open Go.RowKit
/-- Which bounds an instruction has. -/
def bdK (cd : Int) : Int := if cd = 5 ∨ cd = 6 ∨ cd = 8 then 1 else if cd = 14 then 2 else if cd = 15 then 3 else 0
def rlV (s : (Int × Int) × (Int × Int) × (Int × Int) × (Int × Int)) (k : Int) : Value := .agg #[.int .i64 s.1.2, .int .i64 s.2.1.2, .int .i64 s.2.2.1.2, .int .i64 s.2.2.2.2, .int .i64 s.1.1, .int .i64 s.2.1.1, .int .i64 s.2.2.1.1, .int .i64 s.2.2.2.1, .int .i64 k]
def RlOk (cd : Int) (f : FlR) (x1 x2 : Option Addr) (p1 p2 : Nat) (cs : Int) (w : World) : Prop := Calls Tryz.prog 84 #[.int .i64 cd, FlV f x1 x2 p1 p2, .int .i64 cs] w fun e w' => e = .returned (rlV (spO cd (f.rg - 1) (f.sl - 1) ((f.os.length : Int) - 1) (cs - 1)) (bdK cd)) ∧ Below w.heap.size w w'
set_option maxRecDepth 20000 in
set_option maxHeartbeats 8000000 in
theorem ofR_1 (cd : Int) (f : FlR) (x1 x2 : Option Addr) (p1 p2 : Nat) (cs : Int) (w : World) (hc : cd = 1 ∨ cd = 2 ∨ cd = 3 ∨ cd = 4 ∨ cd = 5 ∨ cd = 6 ∨ cd = 7 ∨ cd = 8) (hr : 0 ≤ f.rg ∧ f.rg ≤ 8) (hs : 0 ≤ f.sl ∧ f.sl ≤ 1024) (hn : f.os.length ≤ 1048576) (hq : 0 ≤ cs ∧ cs ≤ 1048576) : RlOk cd f x1 x2 p1 p2 cs w := by
  unfold RlOk
  obtain ⟨nm, wh, ce, ba, rg, sl, os, ls⟩ := f
  simp only at hr hs hn
  have e1 : wrap64 (rg - 1) = rg - 1 := by unfold wrap64; omega
  have e2 : wrap64 (sl - 1) = sl - 1 := by unfold wrap64; omega
  have e3 : wrap64 ((os.length : Int) - 1) = (os.length : Int) - 1 := by unfold wrap64; omega
  have e4 : wrap64 (cs - 1) = cs - 1 := by unfold wrap64; omega
  clear hr hs hn hq
  rcases hc with rfl | rfl | rfl | rfl | rfl | rfl | rfl | rfl
  all_goals
    go_enter Tryz.func84, Tryz.ntmps84
    go_wp2
    refine bodyPost_ret (v := rlV _ _) ?_ rfl ⟨rfl, by go_grown⟩
    unfold rlV spO bdK
    simp [results, Tryz.results84, go_sem]
end Go.Proofs.YtdcjngakmkgbmaaGreat
