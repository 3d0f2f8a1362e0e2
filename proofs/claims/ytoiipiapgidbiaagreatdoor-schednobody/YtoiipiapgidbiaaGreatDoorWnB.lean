/- Two reports that tell nothing are the same; no statement of the seat is proved here. -/
import Derived.Test.YtoiipiapgidbiaaGreatDoorWnA
namespace Go.Proofs.YtoiipiapgidbiaaGreatDoor
set_option linter.unusedVariables false
set_option linter.unusedSimpArgs false
open Go.RowKit
theorem Eq_texts (w : World) : Calls Tryz.prog 40 #[.slice none 0 0, .slice none 0 0] w fun e w' => e = .returned (.bool true) ∧ Below w.heap.size w w' := by
  go_enter Tryz.func40, Tryz.ntmps40
  go_wp2_with fail
  go_loopw [13] (fun i wr => i = .int .i64 0 ∧ wr = w) (fun _ _ => 0)
  case atStart => exact ⟨rfl, rfl⟩
  case round =>
    obtain ⟨rfl, rfl⟩ := hrel
    go_wp2
    go_ret
    exact ⟨rfl, Below.refl _ _⟩
theorem Eq_inputs (w : World) : Calls Tryz.prog 41 #[.slice none 0 0, .slice none 0 0] w fun e w' => e = .returned (.bool true) ∧ Below w.heap.size w w' := by
  go_enter Tryz.func41, Tryz.ntmps41
  go_wp2_with fail
  go_loopw [13] (fun i wr => i = .int .i64 0 ∧ wr = w) (fun _ _ => 0)
  case atStart => exact ⟨rfl, rfl⟩
  case round =>
    obtain ⟨rfl, rfl⟩ := hrel
    go_wp2
    go_ret
    exact ⟨rfl, Below.refl _ _⟩
theorem Eq_numbers (w : World) : Calls Tryz.prog 42 #[.slice none 0 0, .slice none 0 0] w fun e w' => e = .returned (.bool true) ∧ Below w.heap.size w w' := by
  go_enter Tryz.func42, Tryz.ntmps42
  go_wp2_with fail
  go_loopw [13] (fun i wr => i = .int .i64 0 ∧ wr = w) (fun _ _ => 0)
  case atStart => exact ⟨rfl, rfl⟩
  case round =>
    obtain ⟨rfl, rfl⟩ := hrel
    go_wp2
    go_ret
    exact ⟨rfl, Below.refl _ _⟩
/-- Two boxes, one behind the other, each with a report that tells nothing. -/
structure Rp2 (W : World) (h : Nat) : Prop where
  lt : h + 1 < W.heap.size
  a : ∀ (i : Nat) (v : Value), zr[i]? = some v → W.cell? ⟨h, i, none⟩ = some v
  b : ∀ (i : Nat) (v : Value), zr[i]? = some v → W.cell? ⟨h + 1, i, none⟩ = some v
theorem Rp2.next {W w' : World} {h : Nat} (x : Rp2 W h) (hb : Below W.heap.size W w') : Rp2 w' h :=
  ⟨Nat.lt_of_lt_of_le x.lt hb.size, fun i v hi => by rw [hb.cell (p := ⟨h, i, none⟩) (by have := x.lt; simp; omega)]; exact x.a i v hi, fun i v hi => by rw [hb.cell (p := ⟨h + 1, i, none⟩) (by have := x.lt; simp; omega)]; exact x.b i v hi⟩
theorem Rp2.new (W : World) (u v : TypeId) : Rp2 ((W.alloc (.cells zr u)).alloc (.cells zr v)) W.heap.size := by
  refine ⟨by simp, ?_, ?_⟩
  all_goals
    intro i v hi
    have h7 : i < 7 := by
      rcases Nat.lt_or_ge i 7 with h | h
      · exact h
      · rw [Array.getElem?_eq_none (by simpa using h)] at hi; cases hi
    rcases (show i = 0 ∨ i = 1 ∨ i = 2 ∨ i = 3 ∨ i = 4 ∨ i = 5 ∨ i = 6 by omega) with rfl | rfl | rfl | rfl | rfl | rfl | rfl
    all_goals
      simp at hi
      subst hi
      simp
theorem Rp2.bel {w : World} {u v : TypeId} {w1 : World} (hb : Below ((w.alloc (.cells zr u)).alloc (.cells zr v)).heap.size ((w.alloc (.cells zr u)).alloc (.cells zr v)) w1) : Below w.heap.size w w1 :=
  (((Below.refl _ _).alloc (Nat.le_refl _) _).alloc (by simp) _).trans (hb.mono (by simp; omega))
set_option maxHeartbeats 1000000 in
theorem told_same (w : World) : Calls Tryz.prog 19 #[ZR, ZR] w fun e w' => e = .returned (.bool true) ∧ Below w.heap.size w w' := by
  go_enter Tryz.func19, Tryz.ntmps19
  go_wp2_with fail
  refine (Eq_texts _).mono ?_
  rintro e w1 ⟨rfl, hb⟩
  have X1 : Hid (Rp2 w1 w.heap.size) := (Rp2.new w _ _).next hb
  have B1 : Hid (Below w.heap.size w w1) := Rp2.bel hb
  clear hb
  have a1 := X1.out.a 1 _ rfl
  have b1 := X1.out.b 1 _ rfl
  go_wp2_with fail
  refine (Eq_inputs _).mono ?_
  rintro e w2 ⟨rfl, hb⟩
  have X2 : Hid (Rp2 w2 w.heap.size) := X1.out.next hb
  have B2 : Hid (Below w.heap.size w w2) := B1.out.trans (hb.mono B1.out.size)
  clear hb a1 b1 X1 B1
  have a1 := X2.out.a 5 _ rfl
  have b1 := X2.out.b 5 _ rfl
  go_wp2_with fail
  refine (Eq_numbers _).mono ?_
  rintro e w3 ⟨rfl, hb⟩
  have B3 : Hid (Below w.heap.size w w3) := B2.out.trans (hb.mono B2.out.size)
  clear hb
  go_wp2
  go_ret
  exact ⟨rfl, B3.out⟩
set_option maxHeartbeats 1000000 in
theorem rep_same (w : World) : Calls Tryz.prog 6 #[ZR, ZR] w fun e w' => e = .returned (.bool true) ∧ Below w.heap.size w w' := by
  go_enter Tryz.func6, Tryz.ntmps6
  go_wp2_with fail
  refine (told_same _).mono ?_
  rintro e w1 ⟨rfl, hb⟩
  have B1 : Hid (Below w.heap.size w w1) := Rp2.bel hb
  clear hb
  go_wp2
  go_ret
  exact ⟨rfl, B1.out⟩
end Go.Proofs.YtoiipiapgidbiaaGreatDoor
