/- What value.Word and the document's Word answer; no statement of the seat is proved here. -/
import Derived.Test.YtkanhbokdjppoaaGreatDoorMayV
import Derived.Test.YtkanhbokdjppoaaGreatDoorTurnS
import Derived.Handy
namespace Go.Proofs.YtkanhbokdjppoaaGreatDoor
set_option linter.unusedVariables false
open Go.RowKit
/-- The kinds' words. -/
def kwL : List ByteArray := [⟨#[]⟩, ⟨#[66, 79, 79, 76]⟩, ⟨#[83, 73, 78, 84]⟩, ⟨#[73, 78, 84]⟩, ⟨#[68, 73, 78, 84]⟩, ⟨#[76, 73, 78, 84]⟩, ⟨#[85, 83, 73, 78, 84]⟩, ⟨#[85, 73, 78, 84]⟩, ⟨#[85, 68, 73, 78, 84]⟩, ⟨#[85, 76, 73, 78, 84]⟩, ⟨#[66, 89, 84, 69]⟩, ⟨#[87, 79, 82, 68]⟩, ⟨#[68, 87, 79, 82, 68]⟩, ⟨#[76, 87, 79, 82, 68]⟩, ⟨#[84, 73, 77, 69]⟩, ⟨#[68, 65, 84, 69]⟩, ⟨#[84, 79, 68]⟩, ⟨#[68, 84]⟩, ⟨#[76, 82, 69, 65, 76]⟩, ⟨#[83, 84, 82, 73, 78, 71]⟩]
def kw (i : Nat) : ByteArray := kwL.getD i ⟨#[]⟩
/-- The table of words lies as laid. -/
structure KW (w : World) : Prop where
  lt : 0 < w.heap.size
  cl : ∀ i, i < 20 → w.cell? ⟨0, i, none⟩ = some (.string (kw i))
theorem KW.next {w w' : World} (h : KW w) (hb : Below w.heap.size w w') : KW w' := ⟨Nat.lt_of_lt_of_le h.lt hb.size, fun i hi => by rw [hb.cell (p := ⟨0, i, none⟩) h.lt]; exact h.cl i hi⟩
/-- A kind's word. -/
def wdS (k : Int) : ByteArray := if 1 ≤ k ∧ k ≤ 19 then kw k.toNat else ⟨#[]⟩
set_option maxHeartbeats 1000000 in
theorem wisKind_is (k : Int) (w : World) (p : Bool) (hk : 0 ≤ k ∧ k < 256) (h : p = decide (1 ≤ k ∧ k ≤ 19)) : Calls Tryz.prog 132 #[.int .u8 k] w fun e w' => e = .returned (.bool p) ∧ w' = w := by
  subst h
  rcases kinds k hk with rfl | rfl | rfl | rfl | rfl | rfl | rfl | rfl | rfl | rfl | rfl | rfl | rfl | rfl | rfl | rfl | rfl | rfl | rfl | rfl | hk2
  all_goals
    go_enter Tryz.func132, Tryz.ntmps132
    go_wp2
    go_ret
    exact ⟨ret_bool (by first | rfl | (symm; simp; omega) | (rw [Bool.eq_iff_iff]; simp; omega)), rfl⟩
set_option maxHeartbeats 1000000 in
theorem welem_is (k : Int) (w : World) (p : Bool) (hk : 0 ≤ k ∧ k < 256) (h : p = decide (1 ≤ k ∧ k ≤ 19)) : Calls Tryz.prog 51 #[.int .u8 k] w fun e w' => e = .returned (.bool p) ∧ w' = w := by
  subst h
  rcases kinds k hk with rfl | rfl | rfl | rfl | rfl | rfl | rfl | rfl | rfl | rfl | rfl | rfl | rfl | rfl | rfl | rfl | rfl | rfl | rfl | rfl | hk2
  all_goals
    go_enter Tryz.func51, Tryz.ntmps51
    go_wp2
    go_ret
    exact ⟨ret_bool (by first | rfl | (symm; simp; omega) | (rw [Bool.eq_iff_iff]; simp; omega)), rfl⟩
set_option maxHeartbeats 1000000 in
theorem Word_of (k : Int) (w : World) (hw : KW w) (hk : 0 ≤ k ∧ k < 256) : Calls Tryz.prog 90 #[.int .u8 k] w fun e w' => e = .returned (.string (wdS k)) ∧ w' = w := by
  unfold wdS
  by_cases c : 1 ≤ k ∧ k ≤ 19
  · rw [if_pos c]
    have C := hw.cl k.toNat (by omega)
    generalize kw k.toNat = t at *
    clear hw
    go_enter Tryz.func90, Tryz.ntmps90
    go_wp2_with (go_at_call 132; refine (wisKind_is k _ true hk (by symm; simp; omega)).mono ?_; rintro e w2 ⟨rfl, rfl⟩)
    go_ret
    exact ⟨rfl, rfl⟩
  · rw [if_neg c]
    go_enter Tryz.func90, Tryz.ntmps90
    go_wp2_with (go_at_call 132; refine (wisKind_is k _ false hk (by symm; simp; omega)).mono ?_; rintro e w2 ⟨rfl, rfl⟩)
    go_ret
    exact ⟨rfl, rfl⟩
set_option maxRecDepth 100000 in
set_option maxHeartbeats 1000000 in
theorem WordR_no (k : Int) (w : World) (hk : 0 ≤ k ∧ k < 256) (c : ¬ (1 ≤ k ∧ k ≤ 19)) : Calls Tryz.prog 30 #[.int .u8 k] w fun e w' => e = .returned (.string ⟨#[]⟩) ∧ Below w.heap.size w w' := by
  go_enter Tryz.func30, Tryz.ntmps30
  go_wp2_with (go_at_call 51; refine (welem_is k _ false hk (by symm; simp; omega)).mono ?_; rintro e w2 ⟨rfl, rfl⟩)
  go_ret
  exact ⟨rfl, (Below.refl _ _).alloc (Nat.le_refl _) _⟩
set_option maxRecDepth 100000 in
set_option maxHeartbeats 4000000 in
theorem WordR_yes (k : Int) (w : World) (hk : 0 ≤ k ∧ k < 256) (c : 1 ≤ k ∧ k ≤ 19) : Calls Tryz.prog 30 #[.int .u8 k] w fun e w' => e = .returned (.string (kw k.toNat)) ∧ Below w.heap.size w w' := by
  rcases kinds k hk with rfl | rfl | rfl | rfl | rfl | rfl | rfl | rfl | rfl | rfl | rfl | rfl | rfl | rfl | rfl | rfl | rfl | rfl | rfl | rfl | hk2
  all_goals first | omega | skip
  all_goals
    go_enter Tryz.func30, Tryz.ntmps30
    go_wp2_with (go_at_call 51; refine (welem_is _ _ true hk (by simp)).mono ?_; rintro e w2 ⟨rfl, rfl⟩)
    go_ret
    exact ⟨rfl, (Below.refl _ _).alloc (Nat.le_refl _) _⟩
theorem WordR_of (k : Int) (w : World) (hk : 0 ≤ k ∧ k < 256) : Calls Tryz.prog 30 #[.int .u8 k] w fun e w' => e = .returned (.string (wdS k)) ∧ Below w.heap.size w w' := by
  unfold wdS
  by_cases c : 1 ≤ k ∧ k ≤ 19
  · rw [if_pos c]; exact WordR_yes k w hk c
  · rw [if_neg c]; exact WordR_no k w hk c
end Go.Proofs.YtkanhbokdjppoaaGreatDoor
