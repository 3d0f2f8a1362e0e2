/- What Find answers for a name of the table; no statement of the seat is proved here. -/
import Derived.Test.YtkanhbokdjppoaaGreatDoorStdN
import Derived.Test.YtkanhbokdjppoaaGreatDoorStdW
namespace Go.Proofs.YtkanhbokdjppoaaGreatDoor
set_option linter.unusedVariables false
open Go.RowKit
section
variable (nm : ByteArray) (K : Nat) (f : Fu) (a : Option Addr) (n cap : Nat) (R : Int) (w : World)
set_option maxHeartbeats 1000000 in
theorem Find_no (h1 : 1 ≤ K) (h2 : K < 37)
    (hN : ∀ w, Calls Tryz.prog 22 #[.string nm] w fun e w' => e = .returned (.tuple #[.int .i64 K, .int .u8 0]) ∧ Below w.heap.size w w')
    (hU : ∀ w, Calls Tryz.prog 23 #[.int .i64 K] w fun e w' => e = .returned (FV f) ∧ Below w.heap.size w w')
    (hO : ∀ W, Below w.heap.size w W → Calls Tryz.prog 24 #[FV f, .slice a n cap] W fun e w' => e = .returned (.int .u8 0) ∧ Below W.heap.size W w') :
    Calls Tryz.prog 8 #[.string nm, .slice a n cap] w fun e w' => e = .returned (.tuple #[.int .i64 0, .int .u8 0, .int .i64 91]) ∧ Below w.heap.size w w' := by
  have HN : Hid _ := hN
  have HU : Hid _ := hU
  have HO : Hid _ := hO
  have k0 : ((K : Int) == 0) = false := by simp; omega
  clear hN hU hO
  go_enter Tryz.func8, Tryz.ntmps8
  go_wp2_with (first | (go_at_call 22; refine (HN.out _).mono ?_; rintro e w1 ⟨rfl, hb⟩; have HB : Hid _ := hb; clear hb) | (go_at_call 23; refine (HU.out _).mono ?_; rintro e w2 ⟨rfl, hb⟩; have HB2 : Hid (Below w.heap.size w w2) := HB.out.trans (hb.mono HB.out.size); clear hb) | (go_at_call 24; refine (HO.out _ HB2.out).mono ?_; rintro e w3 ⟨rfl, hb⟩; have HB3 : Hid (Below w.heap.size w w3) := HB2.out.trans (hb.mono HB2.out.size); clear hb))
  go_ret3
  exact ⟨rfl, HB3.out⟩
set_option maxHeartbeats 1000000 in
theorem Find_yes (h1 : 1 ≤ K) (h2 : K < 37) (hR : (R == 0) = false)
    (hN : ∀ w, Calls Tryz.prog 22 #[.string nm] w fun e w' => e = .returned (.tuple #[.int .i64 K, .int .u8 0]) ∧ Below w.heap.size w w')
    (hU : ∀ w, Calls Tryz.prog 23 #[.int .i64 K] w fun e w' => e = .returned (FV f) ∧ Below w.heap.size w w')
    (hO : ∀ W, Below w.heap.size w W → Calls Tryz.prog 24 #[FV f, .slice a n cap] W fun e w' => e = .returned (.int .u8 R) ∧ Below W.heap.size W w') :
    Calls Tryz.prog 8 #[.string nm, .slice a n cap] w fun e w' => e = .returned (.tuple #[.int .i64 K, .int .u8 R, .int .i64 0]) ∧ Below w.heap.size w w' := by
  have HN : Hid _ := hN
  have HU : Hid _ := hU
  have HO : Hid _ := hO
  have k0 : ((K : Int) == 0) = false := by simp; omega
  clear hN hU hO
  go_enter Tryz.func8, Tryz.ntmps8
  go_wp2_with (first | (go_at_call 22; refine (HN.out _).mono ?_; rintro e w1 ⟨rfl, hb⟩; have HB : Hid _ := hb; clear hb) | (go_at_call 23; refine (HU.out _).mono ?_; rintro e w2 ⟨rfl, hb⟩; have HB2 : Hid (Below w.heap.size w w2) := HB.out.trans (hb.mono HB.out.size); clear hb) | (go_at_call 24; refine (HO.out _ HB2.out).mono ?_; rintro e w3 ⟨rfl, hb⟩; have HB3 : Hid (Below w.heap.size w w3) := HB2.out.trans (hb.mono HB2.out.size); clear hb))
  go_ret3
  exact ⟨rfl, HB3.out⟩
end
end Go.Proofs.YtkanhbokdjppoaaGreatDoor
