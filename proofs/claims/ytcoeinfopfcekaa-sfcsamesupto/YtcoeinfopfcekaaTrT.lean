/- Statements told the same or not by st; no statement of the seat is proved here. -/
import Derived.Test.YtcoeinfopfcekaaTrQ
namespace Go.Proofs.Ytcoeinfopfcekaa
set_option linter.unusedVariables false
open Go.RowKit
section
variable (h h' : SH) (x1 x1' x2 x2' x3 x3' x4 x4' x5 x5' x6 x6' x7 x7' : Option Addr) (n1 n1' c1 c1' n2 n2' c2 c2' n3 n3' c3 c3' n4 n4' c4 c4' n5 n5' c5 c5' n6 n6' c6 c6' n7 n7' c7 c7' : Nat) (N : Int) (w : World)
set_option maxRecDepth 20000 in
set_option maxHeartbeats 4000000 in
theorem diffS_on (hN : N ≤ 131072) (f1 : (h.op == h'.op) = false) (f3 : (h.nu == h'.nu) = true) :
    Calls Try.prog 41 #[SV h (.slice x1 n1 c1) (.slice x2 n2 c2) (.slice x3 n3 c3) (.slice x4 n4 c4) (.slice x5 n5 c5) (.slice x6 n6 c6) (.slice x7 n7 c7), SV h' (.slice x1' n1' c1') (.slice x2' n2' c2') (.slice x3' n3' c3') (.slice x4' n4' c4') (.slice x5' n5' c5') (.slice x6' n6' c6') (.slice x7' n7' c7'), .int .i64 N] w fun e w' => e = .returned (.bool false) ∧ Below w.heap.size w w' := by
  have GR : Hid (∀ X Y : Obj, Below w.heap.size w ((w.alloc X).alloc Y)) := fun X Y => ((Below.refl _ _).alloc (Nat.le_refl _) _).alloc (by simp) _
  go_enter Try.func41, Try.ntmps41
  go_wp2
  go_ret
  exact ⟨by first | rfl | simp, GR.out _ _⟩
set_option maxRecDepth 20000 in
set_option maxHeartbeats 4000000 in
theorem diffS_mn (hN : N ≤ 131072) (f1 : (h.op == h'.op) = true) (f2 : (h.nm.toList == h'.nm.toList) = false) (f3 : (h.nu == h'.nu) = true) :
    Calls Try.prog 41 #[SV h (.slice x1 n1 c1) (.slice x2 n2 c2) (.slice x3 n3 c3) (.slice x4 n4 c4) (.slice x5 n5 c5) (.slice x6 n6 c6) (.slice x7 n7 c7), SV h' (.slice x1' n1' c1') (.slice x2' n2' c2') (.slice x3' n3' c3') (.slice x4' n4' c4') (.slice x5' n5' c5') (.slice x6' n6' c6') (.slice x7' n7' c7'), .int .i64 N] w fun e w' => e = .returned (.bool false) ∧ Below w.heap.size w w' := by
  have GR : Hid (∀ X Y : Obj, Below w.heap.size w ((w.alloc X).alloc Y)) := fun X Y => ((Below.refl _ _).alloc (Nat.le_refl _) _).alloc (by simp) _
  go_enter Try.func41, Try.ntmps41
  go_wp2
  go_ret
  exact ⟨by first | rfl | simp, GR.out _ _⟩
set_option maxRecDepth 20000 in
set_option maxHeartbeats 4000000 in
theorem diffS_of (hN : N ≤ 131072) (f1 : (h.op == h'.op) = false) (f3 : (h.nu == h'.nu) = false) (f4 : (h.op == 5) = true) :
    Calls Try.prog 41 #[SV h (.slice x1 n1 c1) (.slice x2 n2 c2) (.slice x3 n3 c3) (.slice x4 n4 c4) (.slice x5 n5 c5) (.slice x6 n6 c6) (.slice x7 n7 c7), SV h' (.slice x1' n1' c1') (.slice x2' n2' c2') (.slice x3' n3' c3') (.slice x4' n4' c4') (.slice x5' n5' c5') (.slice x6' n6' c6') (.slice x7' n7' c7'), .int .i64 N] w fun e w' => e = .returned (.bool false) ∧ Below w.heap.size w w' := by
  have GR : Hid (∀ X Y : Obj, Below w.heap.size w ((w.alloc X).alloc Y)) := fun X Y => ((Below.refl _ _).alloc (Nat.le_refl _) _).alloc (by simp) _
  go_enter Try.func41, Try.ntmps41
  go_wp2
  go_ret
  exact ⟨by first | rfl | simp, GR.out _ _⟩
set_option maxRecDepth 20000 in
set_option maxHeartbeats 4000000 in
theorem diffS_mf (hN : N ≤ 131072) (f1 : (h.op == h'.op) = true) (f2 : (h.nm.toList == h'.nm.toList) = false) (f3 : (h.nu == h'.nu) = false) (f4 : (h.op == 5) = true) :
    Calls Try.prog 41 #[SV h (.slice x1 n1 c1) (.slice x2 n2 c2) (.slice x3 n3 c3) (.slice x4 n4 c4) (.slice x5 n5 c5) (.slice x6 n6 c6) (.slice x7 n7 c7), SV h' (.slice x1' n1' c1') (.slice x2' n2' c2') (.slice x3' n3' c3') (.slice x4' n4' c4') (.slice x5' n5' c5') (.slice x6' n6' c6') (.slice x7' n7' c7'), .int .i64 N] w fun e w' => e = .returned (.bool false) ∧ Below w.heap.size w w' := by
  have GR : Hid (∀ X Y : Obj, Below w.heap.size w ((w.alloc X).alloc Y)) := fun X Y => ((Below.refl _ _).alloc (Nat.le_refl _) _).alloc (by simp) _
  go_enter Try.func41, Try.ntmps41
  go_wp2
  go_ret
  exact ⟨by first | rfl | simp, GR.out _ _⟩
set_option maxRecDepth 20000 in
set_option maxHeartbeats 4000000 in
theorem diffS_ox (hN : N ≤ 131072) (f1 : (h.op == h'.op) = false) (f3 : (h.nu == h'.nu) = false) (f4 : (h.op == 5) = false) :
    Calls Try.prog 41 #[SV h (.slice x1 n1 c1) (.slice x2 n2 c2) (.slice x3 n3 c3) (.slice x4 n4 c4) (.slice x5 n5 c5) (.slice x6 n6 c6) (.slice x7 n7 c7), SV h' (.slice x1' n1' c1') (.slice x2' n2' c2') (.slice x3' n3' c3') (.slice x4' n4' c4') (.slice x5' n5' c5') (.slice x6' n6' c6') (.slice x7' n7' c7'), .int .i64 N] w fun e w' => e = .returned (.bool false) ∧ Below w.heap.size w w' := by
  have GR : Hid (∀ X Y : Obj, Below w.heap.size w ((w.alloc X).alloc Y)) := fun X Y => ((Below.refl _ _).alloc (Nat.le_refl _) _).alloc (by simp) _
  go_enter Try.func41, Try.ntmps41
  go_wp2
  go_ret
  exact ⟨by first | rfl | simp, GR.out _ _⟩
set_option maxRecDepth 20000 in
set_option maxHeartbeats 4000000 in
theorem diffS_mx (hN : N ≤ 131072) (f1 : (h.op == h'.op) = true) (f2 : (h.nm.toList == h'.nm.toList) = false) (f3 : (h.nu == h'.nu) = false) (f4 : (h.op == 5) = false) :
    Calls Try.prog 41 #[SV h (.slice x1 n1 c1) (.slice x2 n2 c2) (.slice x3 n3 c3) (.slice x4 n4 c4) (.slice x5 n5 c5) (.slice x6 n6 c6) (.slice x7 n7 c7), SV h' (.slice x1' n1' c1') (.slice x2' n2' c2') (.slice x3' n3' c3') (.slice x4' n4' c4') (.slice x5' n5' c5') (.slice x6' n6' c6') (.slice x7' n7' c7'), .int .i64 N] w fun e w' => e = .returned (.bool false) ∧ Below w.heap.size w w' := by
  have GR : Hid (∀ X Y : Obj, Below w.heap.size w ((w.alloc X).alloc Y)) := fun X Y => ((Below.refl _ _).alloc (Nat.le_refl _) _).alloc (by simp) _
  go_enter Try.func41, Try.ntmps41
  go_wp2
  go_ret
  exact ⟨by first | rfl | simp, GR.out _ _⟩
set_option maxRecDepth 20000 in
set_option maxHeartbeats 4000000 in
theorem diffS_x (hN : N ≤ 131072) (f1 : (h.op == h'.op) = true) (f2 : (h.nm.toList == h'.nm.toList) = true) (f3 : (h.nu == h'.nu) = false) (f4 : (h.op == 5) = false) :
    Calls Try.prog 41 #[SV h (.slice x1 n1 c1) (.slice x2 n2 c2) (.slice x3 n3 c3) (.slice x4 n4 c4) (.slice x5 n5 c5) (.slice x6 n6 c6) (.slice x7 n7 c7), SV h' (.slice x1' n1' c1') (.slice x2' n2' c2') (.slice x3' n3' c3') (.slice x4' n4' c4') (.slice x5' n5' c5') (.slice x6' n6' c6') (.slice x7' n7' c7'), .int .i64 N] w fun e w' => e = .returned (.bool false) ∧ Below w.heap.size w w' := by
  have GR : Hid (∀ X Y : Obj, Below w.heap.size w ((w.alloc X).alloc Y)) := fun X Y => ((Below.refl _ _).alloc (Nat.le_refl _) _).alloc (by simp) _
  go_enter Try.func41, Try.ntmps41
  go_wp2
  go_ret
  exact ⟨by first | rfl | simp, GR.out _ _⟩
end
end Go.Proofs.Ytcoeinfopfcekaa
