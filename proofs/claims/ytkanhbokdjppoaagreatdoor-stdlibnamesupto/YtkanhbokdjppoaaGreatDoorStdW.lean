/- How many arguments a standard function takes, and what it gives for kinds; no statement of the seat is proved here. -/
import Derived.Test.YtkanhbokdjppoaaGreatDoorStdV
import Derived.Test.YtkanhbokdjppoaaGreatDoorStdM
namespace Go.Proofs.YtkanhbokdjppoaaGreatDoor
set_option linter.unusedVariables false
open Go.RowKit
/-- Does a function take so many arguments? -/
def ctB (nx : Int) (c : Nat) (n : Int) : Bool := decide (0 < c) && (n == c || (decide (0 < nx) && decide ((c : Int) < n) && decide (n ≤ 16)))
section
variable (nm fm : ByteArray) (nx hw : Int) (tk gv : Option Nat)
set_option maxHeartbeats 1000000 in
theorem counts_of (n : Int) (c : Nat) (nms : Nat → ByteArray) (w : World) (h : FldOk fm c nms) (ht : Asc w) :
    Calls Tryz.prog 27 #[FV ⟨nm, fm, nx, hw, tk, gv⟩, .int .i64 n] w fun e w' => e = .returned (.bool (ctB nx c n)) ∧ Below w.heap.size w w' := by
  have H : Hid _ := h
  have HT : Hid (Asc w) := ht
  clear h ht
  cases tk <;> cases gv
  all_goals
    go_enter Tryz.func27, Tryz.ntmps27
    go_wp2_with (first | (go_at_call 49; refine (Fields_of _ c nms _ H.out (HT.out.below ((Below.refl _ _).alloc (Nat.le_refl _) _))).mono ?_; rintro e w2 ⟨rfl, hnm, hw2, hb⟩; have HB : Hid (Below w.heap.size w w2) := ((Below.refl _ _).alloc (Nat.le_refl _) _).trans (hb.mono (by simp)); obtain ⟨q, fq⟩ := bcell hb; have q2 := q w.heap.size 2 (by simp); simp at q2; clear hb hnm hw2 q fq))
    all_goals
      go_ret
      exact ⟨ret_bool (by rw [Bool.eq_iff_iff]; simp [ctB]; omega), HB.out⟩
theorem counts_is (n : Int) (c : Nat) (nms : Nat → ByteArray) (w : World) (p : Bool) (h : FldOk fm c nms) (ht : Asc w) (hp : ctB nx c n = p) :
    Calls Tryz.prog 27 #[FV ⟨nm, fm, nx, hw, tk, gv⟩, .int .i64 n] w fun e w' => e = .returned (.bool p) ∧ Below w.heap.size w w' := by subst hp; exact counts_of nm fm nx hw tk gv n c nms w h ht
set_option maxHeartbeats 1000000 in
theorem outcome_no (a : Option Addr) (n cap c : Nat) (nms : Nat → ByteArray) (w : World) (h : FldOk fm c nms) (ht : Asc w) (hc : ctB nx c n = false) :
    Calls Tryz.prog 24 #[FV ⟨nm, fm, nx, hw, tk, gv⟩, .slice a n cap] w fun e w' => e = .returned (.int .u8 0) ∧ Below w.heap.size w w' := by
  have C : Hid (∀ w, Asc w → Calls Tryz.prog 27 #[FV ⟨nm, fm, nx, hw, tk, gv⟩, .int .i64 n] w fun e w' => e = .returned (.bool false) ∧ Below w.heap.size w w') := fun w ht => counts_is nm fm nx hw tk gv n c nms w false h ht hc
  have HT : Hid (Asc w) := ht
  clear h ht hc
  cases tk <;> cases gv
  all_goals
    go_enter Tryz.func24, Tryz.ntmps24
    go_wp2_with (first | (go_at_call 27; refine (C.out _ (HT.out.below ((Below.refl _ _).alloc (Nat.le_refl _) _))).mono ?_; rintro e w2 ⟨rfl, hb⟩; have HB : Hid (Below w.heap.size w w2) := ((Below.refl _ _).alloc (Nat.le_refl _) _).trans (hb.mono (by simp)); clear hb))
    go_ret
    exact ⟨rfl, HB.out⟩
set_option maxHeartbeats 1000000 in
theorem outcome_yes (f : Nat) (R : Int) (a : Option Addr) (n cap c : Nat) (nms : Nat → ByteArray) (w : World) (h : FldOk fm c nms) (ht : Asc w) (hc : ctB nx c n = true)
    (hF : ∀ W, Below w.heap.size w W → Calls Tryz.prog f #[.int .i64 hw, .slice a n cap] W fun e w' => e = .returned (.int .u8 R) ∧ Below W.heap.size W w')
    (hC : ∀ args w, (callFunc f args).run Tryz.prog w = .ok (.enter f args) w) :
    Calls Tryz.prog 24 #[FV ⟨nm, fm, nx, hw, some f, gv⟩, .slice a n cap] w fun e w' => e = .returned (.int .u8 R) ∧ Below w.heap.size w w' := by
  have C : Hid (∀ w, Asc w → Calls Tryz.prog 27 #[FV ⟨nm, fm, nx, hw, some f, gv⟩, .int .i64 n] w fun e w' => e = .returned (.bool true) ∧ Below w.heap.size w w') := fun w ht => counts_is nm fm nx hw (some f) gv n c nms w true h ht hc
  have HT : Hid (Asc w) := ht
  have HF : Hid _ := hF
  clear h ht hc hF
  cases gv
  all_goals
    go_enter Tryz.func24, Tryz.ntmps24
    go_wp2_with (first | (go_at_call 27; refine (C.out _ (HT.out.below ((Below.refl _ _).alloc (Nat.le_refl _) _))).mono ?_; rintro e w2 ⟨rfl, hb⟩; have HB : Hid (Below w.heap.size w w2) := ((Below.refl _ _).alloc (Nat.le_refl _) _).trans (hb.mono (by simp)); obtain ⟨q, fq⟩ := bcell hb; have q3 := q w.heap.size 3 (by simp); have q4 := q w.heap.size 4 (by simp); simp at q3 q4; clear hb q fq))
    refine (HF.out _ HB.out).mono ?_
    rintro e w3 ⟨rfl, hb3⟩
    have HB3 : Hid (Below w.heap.size w w3) := HB.out.trans (hb3.mono HB.out.size)
    clear hb3
    go_wp2
    go_ret
    exact ⟨rfl, HB3.out⟩
end
end Go.Proofs.YtkanhbokdjppoaaGreatDoor
