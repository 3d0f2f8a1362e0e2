/- What the value package's order comes to, and how a statement whose order Go leaves open is walked once where its calls only make memory; no statement of the seat is proved here. -/
import Derived.Test.YtfihbpglnnheiaaDoorNums
import Derived.BigQuiet
namespace Go.Proofs.YtfihbpglnnheiaaDoor
set_option linter.unusedVariables false
open Go.RowKit
set_option maxHeartbeats 400000 in
theorem order_raw (p q : Bool) (a b : Int) (w : World) :
    Calls Tryd.prog 50 #[.agg #[.bool p, .int .u64 a], .agg #[.bool q, .int .u64 b]] w fun e w' =>
      e = .returned (.int .i64 (if p && !q then -1 else if q && !p then 1 else if p then cmpI b a else cmpI a b)) ∧ Below w.heap.size w w' := by
  cases p <;> cases q
  all_goals
    go_enter Tryd.func50, Tryd.ntmps50
    go_wp2_with (first | (go_at_call 59; refine (Compare_of _ _ _).mono ?_; rintro e w1 ⟨rfl, rfl⟩))
    go_ret
    exact ⟨ret_int (by simp), ((Below.refl _ _).alloc (Nat.le_refl _) _).alloc (by simp) _⟩
theorem order_of (a b : Int) (w : World) :
    Calls Tryd.prog 50 #[NB a, NB b] w fun e w' => e = .returned (.int .i64 (cmpI a b)) ∧ Below w.heap.size w w' := by
  refine (order_raw (decide (a < 0)) (decide (b < 0)) a.natAbs b.natAbs w).mono ?_
  rintro e w' ⟨rfl, hb⟩
  refine ⟨ret_int ?_, hb⟩
  by_cases ha : a < 0 <;> by_cases hb : b < 0 <;> simp only [ha, hb, decide_true, decide_false, Bool.not_true, Bool.not_false, Bool.and_true, Bool.and_false, if_true, if_false, Bool.false_eq_true] <;> unfold cmpI <;> (repeat' split) <;> omega
/-- A world in which nothing old has turned. -/
structure Sub (W : World) where
  w : World
  h : Below W.heap.size W w
theorem Sub.cell {W : World} (x : Sub W) (b o : Nat) (h : b < W.heap.size) : x.w.cell? ⟨b, o, none⟩ = W.cell? ⟨b, o, none⟩ := x.h.cell (p := ⟨b, o, none⟩) h
/-- One walk, in the text's order, of a region whose order Go leaves open, where each operation yields one value in every such world and leaves such a world. -/
theorem wp_region_sub {P : Program} {id : Nat} {Q : Exit → Act → World → Prop} {a : Act} {w : World} {l : List Oper} (hm : P.follows .mixedOrders = true) (hB : Region.lexB .any l.toArray = true)
    (h : wpQuiet P l.toArray (fun w' => ∃ x : Sub w, w' = x.w) (fun a' => ∀ w', (∃ x : Sub w, w' = x.w) → Q .normal a' w') l a) : (Code.region id l.toArray true).wp P Q a w :=
  wp_region_quiet (C := fun w' => ∃ x : Sub w, w' = x.w) hm hB ⟨⟨w.drew, (Below.refl _ _).drew⟩, rfl⟩ (by simpa using h)
theorem wp_region_sub2 {P : Program} {id : Nat} {Q : Exit → Act → World → Prop} {a : Act} {w : World} {l : List Oper} (hm : P.follows .mixedOrders = true) (hB : Region.lexB .any l.toArray = true)
    (h : (∀ (x : Sub w) (b o : Nat), b < w.heap.size → x.w.cell? ⟨b, o, none⟩ = w.cell? ⟨b, o, none⟩) → wpQuiet P l.toArray (fun w' => ∃ x : Sub w, w' = x.w) (fun a' => ∀ w', (∃ x : Sub w, w' = x.w) → Q .normal a' w') l a) : (Code.region id l.toArray true).wp P Q a w :=
  wp_region_sub hm hB (h fun x b o hb => x.cell b o hb)
theorem calls_sub {P : Program} {f : FuncId} {args : Array Value} {W : World} {x : Sub W} {v : Value} (h : Calls P f args x.w fun e w' => e = .returned v ∧ Below x.w.heap.size x.w w') :
    Calls P f args x.w fun e w'' => e = .returned v ∧ ∃ y : Sub W, w'' = y.w :=
  h.mono fun _ w' ⟨he, hb⟩ => ⟨he, ⟨w', x.h.trans (hb.mono x.h.size)⟩, rfl⟩
theorem calls_sub_same {P : Program} {f : FuncId} {args : Array Value} {W : World} {x : Sub W} {v : Value} (h : Calls P f args x.w fun e w' => e = .returned v ∧ w' = x.w) :
    Calls P f args x.w fun e w'' => e = .returned v ∧ ∃ y : Sub W, w'' = y.w :=
  h.mono fun _ w' ⟨he, hb⟩ => ⟨he, x, hb⟩
end Go.Proofs.YtfihbpglnnheiaaDoor
