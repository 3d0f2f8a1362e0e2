/- The document's image: may a cell be; no statement of the seat is proved here. -/
import Derived.Test.YtpcjnhffpkpchaaGreatCrHbY
import Derived.Test.YtpcjnhffpkpchaaGreatCrHcY
namespace Go.Proofs.YtpcjnhffpkpchaaGreat
set_option linter.unusedVariables false
open Go.RowKit
theorem cellR_of (l : List CeR) (x : Option Addr) (p i : Nat) (w : World) {S : Nat → Prop} (hS : ∀ b, S b → b < w.heap.size) (ha : RwF 11 (Is ceC) S w x l) (ho : ∀ c ∈ l, CeOk c) (hi : i < l.length) :
    Calls Tryz.prog 36 #[.slice x l.length p, .int .i64 i] w fun e w' => e = .returned (.bool (ceAt l i)) ∧ Below w.heap.size w w' := by
  by_cases h : ∀ c, l[i]? = some c → c.kd = 20
  · exact cellR_a l x p i w hS ha ho hi h
  · exact cellR_b l x p i w hS ha ho hi (fun c hc q => h (fun d hd => by rw [hc] at hd; cases hd; exact q))
end Go.Proofs.YtpcjnhffpkpchaaGreat
