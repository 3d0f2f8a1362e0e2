/- What the statement's function of TimesPrints answers; no statement of the seat is proved here. -/
import Derived.Test.YtmglgaeobofdpaaDoorLaidP
namespace Go.Proofs.YtmglgaeobofdpaaDoor
set_option linter.unusedVariables false
open Go.RowKit
theorem tpS_0 : tpS 14 0 ⟨#[]⟩ = ⟨#[84, 35, 48, 83]⟩ := by
  unfold tpS
  have m : may3 14 0 ⟨#[]⟩ = true := by
    have e : (⟨#[]⟩ : ByteArray).toList = [] := by rw [ByteArray.toList_eq]
    simp [may3, mayW, e]
  have z : wrap64 0 = 0 := by unfold wrap64; omega
  rw [m, if_neg (by simp), if_pos rfl, z]
  have t : tmS 0 = ⟨#[48, 83]⟩ := by unfold tmS spS; rfl
  rw [t]
  rfl
section
variable (k b : Int) (s : ByteArray) (w : World)
set_option maxRecDepth 100000 in
set_option maxHeartbeats 2000000 in
theorem Prints_law (hk : 0 ≤ k ∧ k < 256) (h0 : 0 ≤ b) (h1 : b < 18446744073709551616) (hs : s.size ≤ maxLen) (hP : Pow w) (hU : PU w) (hT : Tab w) :
    Calls Tryd.prog 4 #[V k b s] w fun e w' => e = .returned (.bool true) ∧ Below w.heap.size w w' := by
  have HT : Hid (∀ w', Below w.heap.size w w' → Pow w' ∧ PU w' ∧ Tab w') := fun w' hb => ⟨pow_below hP hb, hU.next hb, tabB hT hb⟩
  have P1 : Hid (∀ w', Below w.heap.size w w' → Calls Tryd.prog 7 #[V k b s] w' fun e w'' => e = .returned (.string (tpS k b s)) ∧ Below w'.heap.size w' w'') := fun w' hb => TPrint_of k b s w' (HT.out _ hb).1 (HT.out _ hb).2.1 (HT.out _ hb).2.2 h0 h1 hk hs
  have P2 : Hid (∀ w', Calls Tryd.prog 8 #[V k b s] w' fun e w'' => e = .returned (.string (tpS k b s)) ∧ Below w'.heap.size w' w'') := fun w' => TPrintR_of k b s w' h0 h1 hk hs
  have P3 : Hid (∀ w', Below w.heap.size w w' → Calls Tryd.prog 7 #[V 14 0 ⟨#[]⟩] w' fun e w'' => e = .returned (.string ⟨#[84, 35, 48, 83]⟩) ∧ Below w'.heap.size w' w'') := fun w' hb => by
    have := TPrint_of 14 0 ⟨#[]⟩ w' (HT.out _ hb).1 (HT.out _ hb).2.1 (HT.out _ hb).2.2 (by omega) (by omega) (by omega) (Nat.zero_le _)
    rwa [tpS_0] at this
  clear hP hU hT HT
  generalize tpS k b s = q at *
  have E1 : (q.toList == q.toList) = true := by simp
  go_enter Tryd.func4, Tryd.ntmps4
  go_wp2_with fail
  have B0 : Hid (Below w.heap.size w (w.alloc (.cells #[.int .u8 k, .int .u64 b, .string s] 25))) := (Below.refl _ _).alloc (Nat.le_refl _) _
  have L0 : Hid _ := Lies.new w k b s 25
  generalize w.alloc (.cells #[.int .u8 k, .int .u64 b, .string s] 25) = wa at *
  obtain ⟨l0, c00, c01, c02⟩ := L0.out
  have Q1 : Hid (∀ z : Sub wa, Calls Tryd.prog 7 #[V k b s] z.w fun e w'' => e = .returned (.string q) ∧ ∃ z' : Sub wa, w'' = z'.w) := fun z => calls_sub (P1.out z.w (B0.out.trans (z.h.mono B0.out.size)))
  have Q2 : Hid (∀ z : Sub wa, Calls Tryd.prog 8 #[V k b s] z.w fun e w'' => e = .returned (.string q) ∧ ∃ z' : Sub wa, w'' = z'.w) := fun z => calls_sub (P2.out z.w)
  have Q3 : Hid (∀ z : Sub wa, Calls Tryd.prog 7 #[V 14 0 ⟨#[]⟩] z.w fun e w'' => e = .returned (.string ⟨#[84, 35, 48, 83]⟩) ∧ ∃ z' : Sub wa, w'' = z'.w) := fun z => calls_sub (P3.out z.w (B0.out.trans (z.h.mono B0.out.size)))
  clear P1 P2 P3 L0
  refine wp_region_sub2 (by kernel_rfl) (by kernel_rfl) ?_
  intro cx
  repeat (first | go_big_quiet_skip | (go_big_quiet_want; go_big_quiet_op; first | go_big_quiet_on | (refine ⟨_, fun _ => rfl, ?_⟩; go_big_quiet_on) | go_big_quiet_call (first
    | (go_at_call_of 7 s; exact Q1.out _)
    | (go_at_call 7; exact Q3.out _)
    | (go_at_call 8; exact Q2.out _))))
  refine wpQuiet_nil ?_
  rintro _ ⟨y, rfl⟩
  have B5 : Hid (Below w.heap.size w y.w) := B0.out.trans (y.h.mono B0.out.size)
  clear cx
  go_wp2
  go_ret
  exact ⟨rfl, B5.out⟩
end
end Go.Proofs.YtmglgaeobofdpaaDoor
