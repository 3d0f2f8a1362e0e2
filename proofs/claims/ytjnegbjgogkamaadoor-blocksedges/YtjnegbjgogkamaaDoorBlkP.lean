/- What Start answers for F_TRIG; a step of the two edges; two truth values ahead of a list; no statement of the seat is proved here. -/
import Derived.Test.YtjnegbjgogkamaaDoorBlkKF
import Derived.Test.YtjnegbjgogkamaaDoorBlkL
import Derived.Test.YtjnegbjgogkamaaDoorBlkQ
namespace Go.Proofs.YtjnegbjgogkamaaDoor
set_option linter.unusedVariables false
open Go.RowKit
theorem fldF : FldOk ⟨#[67, 76, 75, 32, 81, 32, 77]⟩ 3 nmF where
  small := by decide
  ascii := fun j b h => (show ∀ b ∈ (⟨#[67, 76, 75, 32, 81, 32, 77]⟩ : ByteArray).data.toList, b.toNat < 128 by decide) b (List.mem_of_getElem? h)
  len := by decide
  at_ := fun i hi => by
    match i, hi with
    | 0, _ => rfl
    | 1, _ => rfl
    | 2, _ => rfl
theorem Start_4 (w : World) (ht : Asc w) : Calls Tryd.prog 16 #[.int .i64 4] w fun e w' => ∃ g c, e = .returned (.slice (some ⟨g, 0, none⟩) 3 c) ∧ w.heap.size ≤ g ∧ Row3 w' g 3 (vlL ks3 [0, 0, 1]) ∧ Below w.heap.size w w' := by
  refine (Start_fall ks3 1 1 w (Vars_fall ⟨#[70, 95, 84, 82, 73, 71]⟩ ⟨#[67, 76, 75, 32, 81, 32, 77]⟩ ks3 1 1 43 w numbered_4 rfl fldF ht (by decide) (by decide)) rfl).mono ?_
  rintro e w' ⟨g, c, rfl, hg, hr, hb⟩
  refine ⟨g, c, rfl, hg, hr.congr (fun i hi => ?_), hb⟩
  match i, hi with
  | 0, _ => rfl
  | 1, _ => rfl
  | 2, _ => rfl
theorem inp1 (w : World) (ks : ByteArray) (x0 k0 b0 : Int) (h0 : kAt ks 0 = k0) (e0 : x0 % 18446744073709551616 = b0) :
    VsAt (w.alloc (.cells #[.int .u8 k0, .int .u64 b0, .string ⟨#[]⟩] 34)) ⟨w.heap.size, 0, none⟩ 1 (vlL ks [x0]) := by
  subst h0 e0
  have : Row3 (w.alloc (.cells #[.int .u8 (kAt ks 0), .int .u64 (x0 % 18446744073709551616), .string ⟨#[]⟩] 34)) w.heap.size 1 (vlL ks [x0]) := by
    refine ⟨_, heap_alloc_last w _, by simp, fun i hi => ?_⟩
    match i, hi with
    | 0, _ => exact ⟨rfl, rfl, rfl⟩
  exact this.at
theorem stok3 (K : Int) (hK : K = 3 ∨ K = 4) (now : Int) : StOk K ks3.size ks3 now := by
  rcases hK with rfl | rfl
  · exact fun a cap v w h1 h2 h3 => Step_3 a cap v now w h1 h2 h3
  · exact fun a cap v w h1 h2 h3 => Step_4 a cap v now w h1 h2 h3
/-- A step of an edge. -/
theorem stepE (K now : Int) (a b : Addr) (cap capm : Nat) (x0 l0 l1 l2 : Int) (w : World) (hS : StOk K ks3.size ks3 now) (hv : VsAt w a 3 (vlL ks3 [l0, l1, l2])) (hu : VsAt w b 1 (vlL ks3 [x0]))
    (hL : okL ks3 [l0, l1, l2]) (h0 : B01 x0) :
    Calls Tryd.prog 22 #[.int .i64 K, .slice (some a) 3 cap, .int .i64 now, .slice (some b) 1 capm] w fun e w' => ∃ g, e = .returned (NS g 3) ∧ w.heap.size ≤ g ∧ Row3 w' g 3 (vlL ks3 (nxt K (clN now) [x0, l1, l2])) ∧ Below w.heap.size w w' :=
  stepL K 1 ks3 now a b cap capm _ _ w hS hv hu hL rfl (fun i hi => by
    match i, hi with
    | 0, _ => exact okN1 h0) (by decide) (by decide) (by decide)
theorem ok3 {a b c : Int} (h0 : B01 a) (h1 : B01 b) (h2 : B01 c) : okL ks3 [a, b, c] := ⟨rfl, forall3 (okN1 h0) (okN1 h1) (okN1 h2)⟩
theorem rise_next (now q : Int) (p was : Bool) : nxt 3 now [tN p, q, tN was] = [tN p, tN (p && !was), tN p] := by
  cases p <;> cases was <;> rfl
theorem fall_next (now q : Int) (p was : Bool) : nxt 4 now [tN p, q, tN was] = [tN p, tN (!p && was), tN p] := by
  cases p <;> cases was <;> rfl
/-- Two truth values ahead of the others. -/
def boD (f : Nat → Bool) (i : Nat) : Bool := if i = 0 then true else if i = 1 then false else f (i - 2)
theorem boL_two (n : Nat) (f : Nat → Bool) : [.bool true, .bool false] ++ boL n f = boL (n + 2) (boD f) := by
  unfold boL
  rw [List.range_succ_eq_map, List.map_cons, List.map_map, List.range_succ_eq_map, List.map_cons, List.map_map]
  rfl
theorem own_bool2 (w : World) (e : TypeId) : (w.alloc (.cells #[.bool true, .bool false] e)).ownsRow w.heap.size e 1 (.slice (some ⟨w.heap.size, 0, none⟩) 2 2) 2 [.bool true, .bool false] :=
  ⟨rfl, .inr ⟨w.heap.size, 2, _, rfl, Nat.le_refl _, heap_alloc_last w _, Nat.le_refl _, by decide, rfl, rfl⟩⟩
end Go.Proofs.YtjnegbjgogkamaaDoor
