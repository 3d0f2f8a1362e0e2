/- What value.printNumber and value.Print answer, of BOOLs and integers; no statement of the seat is proved here. -/
import Derived.Test.YtlaamkfpdompjaaGreatDoorFmtU
import Derived.Test.YtlaamkfpdompjaaGreatDoorFitted
import Derived.Handy
import Derived.Deep.Light
namespace Go.Proofs.YtlaamkfpdompjaaGreatDoor
set_option linter.unusedVariables false
open Go.RowKit
theorem pow_below {w w' : World} (h : Pow w) (hb : Below w.heap.size w w') : Pow w' := by
  unfold Pow Lib.TabIs World.var? at *
  cases hg : Tryz.prog.globalNamed "internal/strconv.uint64pow10" with
  | none => simp [hg] at h
  | some g =>
    simp only [hg, Option.bind_some] at h ⊢
    have hlt : g < w.heap.size := by
      rcases Nat.lt_or_ge g w.heap.size with h' | h'
      · exact h'
      · rw [Array.getElem?_eq_none h'] at h; simp at h
    rw [hb.block g hlt]
    exact h
/-- A number's digits, as bytes. -/
def decS (u : Nat) : ByteArray := ⟨(Lib.decDigits u).toArray⟩
theorem decS_size (u : Nat) (h : u < 18446744073709551616) : (decS u).size ≤ 20 := by
  have e : (decS u).size = (Lib.decDigits u).length := by unfold decS; simp [ByteArray.size]
  rw [e, Lib.decDigits_length]
  rcases Nat.eq_zero_or_pos u with rfl | hu
  · have : Lib.nDigits 0 = 1 := by kernel_rfl
    omega
  · have := Lib.numDigits_eq u hu h
    split at this <;> omega
set_option maxHeartbeats 1000000 in
theorem printNumber_of (n : Int) (w : World) (hP : Pow w) (h0 : -18446744073709551616 < n) (h1 : n < 18446744073709551616) :
    Calls Tryz.prog 58 #[NB n] w fun e w' => (∃ t, e = .returned (.string t) ∧ t.size ≤ 21) ∧ Below w.heap.size w w' := by
  have hu : n.natAbs < 18446744073709551616 := by omega
  have F : Hid (∀ o, Calls Tryz.prog 62 #[.int .u64 (n.natAbs : Nat), .int .i64 10] (w.alloc o) fun e w' => e = .returned (.string (decS n.natAbs)) ∧ Below (w.alloc o).heap.size (w.alloc o) w') :=
    fun o => FormatUint_of n.natAbs hu _ (pow_below hP ((Below.refl _ _).alloc (Nat.le_refl _) o))
  have S := decS_size n.natAbs hu
  clear hP
  by_cases hn : n < 0
  · rw [NB_raw_neg hn]
    generalize decS n.natAbs = t at *
    go_enter Tryz.func58, Tryz.ntmps58
    go_wp2_with (go_at_call 62; refine (F.out _).mono ?_; rintro e w' ⟨rfl, hb⟩)
    go_ret
    refine ⟨⟨_, rfl, ?_⟩, ((Below.refl _ _).alloc (Nat.le_refl _) _).trans (hb.mono (by simp))⟩
    rw [ByteArray.size_append]
    have : (⟨#[45]⟩ : ByteArray).size = 1 := rfl
    omega
  · rw [NB_raw_pos (by omega), show n = (n.natAbs : Int) by omega]
    generalize decS n.natAbs = t at *
    go_enter Tryz.func58, Tryz.ntmps58
    go_wp2_with (go_at_call 62; refine (F.out _).mono ?_; rintro e w' ⟨rfl, hb⟩)
    go_ret
    exact ⟨⟨t, rfl, by omega⟩, ((Below.refl _ _).alloc (Nat.le_refl _) _).trans (hb.mono (by simp))⟩
set_option maxHeartbeats 1000000 in
theorem isRow_is (k : Int) (w : World) (p : Bool) (hk : 0 ≤ k ∧ k < 256) (h : p = decide (10 ≤ k ∧ k ≤ 13)) : Calls Tryz.prog 26 #[.int .u8 k] w fun e w' => e = .returned (.bool p) ∧ w' = w := by
  subst h
  rcases kinds k hk with rfl | rfl | rfl | rfl | rfl | rfl | rfl | rfl | rfl | rfl | rfl | rfl | rfl | rfl | rfl | rfl | rfl | rfl | rfl | rfl | hk2
  all_goals
    go_enter Tryz.func26, Tryz.ntmps26
    go_wp2
    go_ret
    exact ⟨ret_bool (by first | rfl | (symm; simp; omega)), rfl⟩
/-- A value lies in a box. -/
structure Lies (W : World) (p : Nat) (k b : Int) (s : ByteArray) : Prop where
  lt : p < W.heap.size
  c0 : W.cell? ⟨p, 0, none⟩ = some (.int .u8 k)
  c1 : W.cell? ⟨p, 1, none⟩ = some (.int .u64 b)
  c2 : W.cell? ⟨p, 2, none⟩ = some (.string s)
theorem Lies.next {W w' : World} {p : Nat} {k b : Int} {s : ByteArray} (h : Lies W p k b s) (hb : Below W.heap.size W w') : Lies w' p k b s :=
  ⟨Nat.lt_of_lt_of_le h.lt hb.size, by rw [hb.cell (p := ⟨p, 0, none⟩) h.lt]; exact h.c0, by rw [hb.cell (p := ⟨p, 1, none⟩) h.lt]; exact h.c1, by rw [hb.cell (p := ⟨p, 2, none⟩) h.lt]; exact h.c2⟩
theorem Lies.alloc {W : World} {p : Nat} {k b : Int} {s : ByteArray} (h : Lies W p k b s) (o : Obj) : Lies (W.alloc o) p k b s := h.next ((Below.refl _ _).alloc (Nat.le_refl _) _)
theorem Lies.new (W : World) (k b : Int) (s : ByteArray) (t : TypeId) : Lies (W.alloc (.cells #[.int .u8 k, .int .u64 b, .string s] t)) W.heap.size k b s :=
  ⟨by simp, by simp, by simp, by simp⟩
set_option maxRecDepth 100000 in
set_option maxHeartbeats 2000000 in
theorem print_b (b : Int) (s : ByteArray) (w : World) (M : Hid (∀ w, Calls Tryz.prog 7 #[V 1 1 s] w fun e w' => e = .returned (.bool true) ∧ Below w.heap.size w w')) :
    Calls Tryz.prog 34 #[V 1 1 s] w fun e w' => (∃ t, e = .returned (.string t) ∧ t.size ≤ 21) ∧ Below w.heap.size w w' := by
  go_enter Tryz.func34, Tryz.ntmps34
  go_wp2_with fail
  refine (M.out _).mono ?_
  rintro e w1 ⟨rfl, hb⟩
  have B : Hid (Below w.heap.size w w1) := ((Below.refl _ _).alloc (Nat.le_refl _) _).trans (hb.mono (by simp))
  obtain ⟨l0, c00, c01, c02⟩ := (Lies.new w 1 1 s _).next hb
  clear hb
  go_wp2
  go_ret
  exact ⟨⟨_, rfl, by decide⟩, B.out⟩
set_option maxRecDepth 100000 in
set_option maxHeartbeats 2000000 in
theorem Print_of (k b : Int) (s : ByteArray) (w : World) (hP : Pow w) (h0 : 0 ≤ b) (h1 : b < 18446744073709551616) (hk : 1 ≤ k ∧ k ≤ 9) (hs : s.size ≤ maxLen) (m : may3 k b s = true) :
    Calls Tryz.prog 34 #[V k b s] w fun e w' => (∃ t, e = .returned (.string t) ∧ t.size ≤ 21) ∧ Below w.heap.size w w' := by
  have M : Hid (∀ w, Calls Tryz.prog 7 #[V k b s] w fun e w' => e = .returned (.bool true) ∧ Below w.heap.size w w') := fun w => by
    have := May_of k b s w h0 h1 (by omega) hs
    rwa [m] at this
  clear m
  by_cases e1 : k = 1
  · subst e1
    by_cases b1 : b = 1
    case pos => subst b1; exact print_b 1 s w M
    case neg =>
      go_enter Tryz.func34, Tryz.ntmps34
      go_wp2_with fail
      refine (M.out _).mono ?_
      rintro e w1 ⟨rfl, hb⟩
      have B : Hid (Below w.heap.size w w1) := ((Below.refl _ _).alloc (Nat.le_refl _) _).trans (hb.mono (by simp))
      obtain ⟨l0, c00, c01, c02⟩ := (Lies.new w 1 _ s _).next hb
      clear hb
      go_wp2
      go_ret
      exact ⟨⟨_, rfl, by decide⟩, B.out⟩
  · have f1 : (k == 1) = false := by simpa using e1
    have f19 : (k == 19) = false := by simp; omega
    have f18 : (k == 18) = false := by simp; omega
    have HP : Hid (Pow w) := hP
    have N1 : Hid (-18446744073709551616 < num k b ∧ num k b < 18446744073709551616) := by
      show _ ∧ _
      have := num_bd k b h0 h1
      omega
    clear hP
    go_enter Tryz.func34, Tryz.ntmps34
    go_wp2_with fail
    refine (M.out _).mono ?_
    rintro e w1 ⟨rfl, hb⟩
    have B : Hid (Below w.heap.size w w1) := ((Below.refl _ _).alloc (Nat.le_refl _) _).trans (hb.mono (by simp))
    have A0 : Hid _ := (Lies.new w k b s _).next hb
    obtain ⟨l0, c00, c01, c02⟩ := A0.out
    clear hb
    go_wp2_with fail
    refine (isRow_is k _ false (by omega) (by symm; simp; omega)).mono ?_
    rintro e w2 ⟨rfl, rfl⟩
    go_wp2_with fail
    refine (numberOf_of k b s _ h0 h1).mono ?_
    rintro e w3 ⟨rfl, hb⟩
    have B3 : Hid (Below w.heap.size w w3) := B.out.trans (hb.mono B.out.size)
    have P3 : Hid (Pow w3) := pow_below HP.out B3.out
    clear hb
    go_wp2_with fail
    refine (printNumber_of (num k b) _ P3.out N1.out.1 N1.out.2).mono ?_
    rintro e w4 ⟨⟨t, rfl, ht⟩, hb⟩
    go_wp2
    go_ret
    exact ⟨⟨t, rfl, ht⟩, B3.out.trans (hb.mono B3.out.size)⟩
end Go.Proofs.YtlaamkfpdompjaaGreatDoor
