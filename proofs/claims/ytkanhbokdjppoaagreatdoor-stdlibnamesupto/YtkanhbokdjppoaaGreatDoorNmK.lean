/- Two rows of names are the same; no statement of the seat is proved here. -/
import Derived.Test.YtkanhbokdjppoaaGreatDoorNmG
import Derived.Test.YtkanhbokdjppoaaGreatDoorSubG
namespace Go.Proofs.YtkanhbokdjppoaaGreatDoor
set_option linter.unusedVariables false
open Go.RowKit
theorem RowS.same {w w' : World} {g n : Nat} {p : Nat → ByteArray} (h : RowS w g n p) (e : w'.heap[g]? = w.heap[g]?) : RowS w' g n p := by
  obtain ⟨A, h1, h2, h3⟩ := h
  exact ⟨A, e.trans h1, h2, h3⟩
theorem RowS.lt {w : World} {g n : Nat} {p : Nat → ByteArray} (h : RowS w g n p) : g < w.heap.size := by
  obtain ⟨A, h1, _, _⟩ := h
  rcases Nat.lt_or_ge g w.heap.size with q | q
  · exact q
  · rw [Array.getElem?_eq_none q] at h1; cases h1
theorem RowS.below {w w' : World} {b g n : Nat} {p : Nat → ByteArray} (h : RowS w g n p) (hb : Below b w w') (l : g < b) : RowS w' g n p := h.same (hb.block g l)
theorem RowS.cell {w : World} {g n : Nat} {p : Nat → ByteArray} (h : RowS w g n p) (i : Nat) (hi : i < n) : w.cell? ⟨g, i, none⟩ = some (.string (p i)) := by
  obtain ⟨A, h1, _, h3⟩ := h
  simp only [World.cell?, h1]
  simpa using h3 i hi
theorem eq_nil (w : World) : Calls Tryz.prog 16 #[.slice none 0 0, .slice none 0 0] w fun e w' => e = .returned (.bool true) ∧ Below w.heap.size w w' := by
  go_enter Tryz.func16, Tryz.ntmps16
  go_wp2_with fail
  go_loopw [13] (fun i wr => i = .int .i64 0 ∧ Below w.heap.size w wr) (fun i _ => 0)
  case atStart => exact ⟨rfl, Below.refl _ _⟩
  case round =>
    obtain ⟨rfl, hb⟩ := hrel
    go_wp2
    go_ret
    exact ⟨rfl, hb⟩
set_option maxHeartbeats 2000000 in
theorem eq_rows (a b n c d : Nat) (p : Nat → ByteArray) (w : World) (ha : RowS w a n p) (hb : RowS w b n p) (hn : n ≤ 1000) : Calls Tryz.prog 16 #[.slice (some ⟨a, 0, none⟩) n c, .slice (some ⟨b, 0, none⟩) n d] w fun e w' => e = .returned (.bool true) ∧ Below w.heap.size w w' := by
  have HA : Hid (RowS w a n p) := ha
  have HB : Hid (RowS w b n p) := hb
  clear ha hb
  go_enter Tryz.func16, Tryz.ntmps16
  go_wp2_with fail
  go_loopw [13] (fun i wr => ∃ k : Nat, k ≤ n ∧ i = .int .i64 k ∧ Below w.heap.size w wr) (fun i _ => n - (intOf i).toNat)
  case atStart => exact ⟨0, Nat.zero_le _, rfl, Below.refl _ _⟩
  case round =>
    obtain ⟨k, hk, rfl, hbw⟩ := hrel
    have HW : Hid (Below w.heap.size w wr) := hbw
    by_cases hlt : k < n
    · have e0 := (HA.out.below hbw HA.out.lt).cell k hlt
      have e1 := (HB.out.below hbw HB.out.lt).cell k hlt
      have kl : (k : Int) < n := by omega
      have k16 : (k : Int) ≤ 1000 := by omega
      generalize p k = pk at *
      clear hbw
      have za := block_lt_of_cell e0
      have zb := block_lt_of_cell e1
      go_wp2_with fail
      have cy : ∀ x : Sub wr, x.w.cell? ⟨a, k, none⟩ = some (.string pk) := fun x => (x.h.cell za).trans e0
      have cz : ∀ x : Sub wr, x.w.cell? ⟨b, k, none⟩ = some (.string pk) := fun x => (x.h.cell zb).trans e1
      refine wp_region_sub2 (by kernel_rfl) (by kernel_rfl) ?_
      intro cx
      repeat (first | go_big_quiet_skip | (go_big_quiet_want; go_big_quiet_op; first | go_big_quiet_on | (refine ⟨_, fun _ => rfl, ?_⟩; go_big_quiet_on)))
      refine wpQuiet_nil ?_
      rintro _ ⟨y, rfl⟩
      have Y : Hid (Below wr.heap.size wr y.w) := y.h
      clear cx cy cz
      go_wp2
      exact ⟨⟨k + 1, by omega, by go_num, HW.out.trans (Y.out.mono HW.out.size)⟩, by simp [intOf]; omega⟩
    · have ek : k = n := by omega
      have kl : ¬ (k : Int) < n := by omega
      clear hbw
      go_wp2
      go_ret
      exact ⟨rfl, HW.out⟩
end Go.Proofs.YtkanhbokdjppoaaGreatDoor
