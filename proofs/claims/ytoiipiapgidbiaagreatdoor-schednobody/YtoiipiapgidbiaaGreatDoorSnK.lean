/- A resource of nothing: Start and Now of the outer one; no statement of the seat is proved here. -/
import Derived.Test.YtoiipiapgidbiaaGreatDoorSnJ
namespace Go.Proofs.YtoiipiapgidbiaaGreatDoor
set_option linter.unusedVariables false
set_option linter.unusedSimpArgs false
open Go.RowKit
open Go.MuLone
set_option maxRecDepth 20000 in
set_option maxHeartbeats 4000000 in
theorem askN_E (h g : Nat) (o m f n : Value) (t : Int) (w : World) (hg : g ≠ h) (hr : RsAt w h g 0) (ht : TkAt w g o (.int .i64 t) m f) : Calls Tryz.prog 26 #[.pointer (some ⟨h, 0, none⟩), n, .func (.func 27) #[] #[]] w fun e w' => e = .returned (.int .i64 t) ∧ RsAt w' h g 0 ∧ TkAt w' g o (.int .i64 t) m f ∧ (∀ B, B ≤ g → B ≤ h → Below B w w') ∧ (∀ k, k ≠ h → w'.heap[k]? = w.heap[k]?) := by
  obtain ⟨r0, r2, rz⟩ := rsR hr
  have T1 : Hid (TkAt (w.setCell ⟨h, 0, none⟩ (.int .i32 1)) g o (.int .i64 t) m f) := ht.oth h 0 _ hg
  have R1 : Hid (RsAt (w.setCell ⟨h, 0, none⟩ (.int .i32 1)) h g 1) := hr.lock 1
  go_enter_defers Tryz.func26, Tryz.ntmps26
  go_wp2_with (go_at_call 35; refine (lock_free muLib ⟨h, 0, none⟩ _ r0 (rz 0)).mono ?_; rintro e w' ⟨rfl, rfl⟩)
  refine (nowT_E g o _ m f _ T1.out).mono ?_
  rintro e w1 ⟨rfl, rfl⟩
  have B2 : Hid (∀ B, B ≤ g → B ≤ h → Below B w (w.setCell ⟨h, 0, none⟩ (.int .i32 1))) := fun B h1 h2 => (Below.refl _ _).setCell (by show B ≤ h; exact h2) _
  have E2 : Hid (∀ k, k ≠ h → (w.setCell ⟨h, 0, none⟩ (.int .i32 1)).heap[k]? = w.heap[k]?) := fun k hk => Below.heap_setCell _ _ _ _ (by show k ≠ h; exact hk)
  generalize (w.setCell ⟨h, 0, none⟩ (.int .i32 1)) = W at *
  clear r0 r2 rz hr ht
  obtain ⟨r0, r2, rz⟩ := rsR R1.out
  go_wp2
  refine leaves_cons (f := 36) (args := #[.pointer (some ⟨h, 0, none⟩)]) (by simp) (by simp [go_sem]) ?_
  refine (unlock_deferred muLib ⟨h, 0, none⟩ .returning _ r0 (rz 0)).mono ?_
  rintro e u' w'' ⟨rfl, rfl, rfl⟩
  exact ⟨_, results_tmp rfl _ _ _, rfl, R1.out.lock 0, T1.out.oth h 0 _ hg, fun B h1 h2 => (B2.out B h1 h2).setCell (by show B ≤ h; exact h2) _, fun k hk => (Below.heap_setCell _ _ _ _ (by show k ≠ h; exact hk)).trans (E2.out k hk)⟩
set_option maxRecDepth 20000 in
theorem startS_E (h g : Nat) (o t f : Value) (w : World) (hg : g ≠ h) (hr : RsAt w h g 0) (ht : TkAt w g o t (.int .i64 1) f) : Calls Tryz.prog 7 #[.pointer (some ⟨h, 0, none⟩)] w fun e w' => e = .returned (.int .i64 0) ∧ RsAt w' h g 0 ∧ TkAt w' g o t (.int .i64 2) (.bool true) ∧ (∀ B, B ≤ g → B ≤ h → Below B w w') := by
  have CA : Hid (Calls Tryz.prog 16 #[.pointer (some ⟨h, 0, none⟩), .int .i64 8, .func (.func 20) #[] #[]] w fun e w' => e = .returned (.int .i64 0) ∧ RsAt w' h g 0 ∧ TkAt w' g o t (.int .i64 2) (.bool true) ∧ (∀ B, B ≤ g → B ≤ h → Below B w w')) := askS_E h g o t f _ w hg hr ht
  clear hr ht
  go_enter Tryz.func7, Tryz.ntmps7
  go_wp2_with fail
  refine (CA.out).mono ?_
  rintro e w1 ⟨rfl, h1, h2, h3⟩
  have X : Hid (RsAt w1 h g 0 ∧ TkAt w1 g o t (.int .i64 2) (.bool true) ∧ (∀ B, B ≤ g → B ≤ h → Below B w w1)) := ⟨h1, h2, h3⟩
  clear h1 h2 h3
  go_wp2
  go_ret
  exact ⟨rfl, X.out⟩
set_option maxRecDepth 20000 in
theorem nowS_E (h g : Nat) (o m f : Value) (t : Int) (w : World) (hg : g ≠ h) (hr : RsAt w h g 0) (ht : TkAt w g o (.int .i64 t) m f) : Calls Tryz.prog 11 #[.pointer (some ⟨h, 0, none⟩)] w fun e w' => e = .returned (.int .i64 t) ∧ RsAt w' h g 0 ∧ TkAt w' g o (.int .i64 t) m f ∧ (∀ B, B ≤ g → B ≤ h → Below B w w') ∧ (∀ k, k ≠ h → w'.heap[k]? = w.heap[k]?) := by
  have CA : Hid (Calls Tryz.prog 26 #[.pointer (some ⟨h, 0, none⟩), .int .i64 0, .func (.func 27) #[] #[]] w fun e w' => e = .returned (.int .i64 t) ∧ RsAt w' h g 0 ∧ TkAt w' g o (.int .i64 t) m f ∧ (∀ B, B ≤ g → B ≤ h → Below B w w') ∧ (∀ k, k ≠ h → w'.heap[k]? = w.heap[k]?)) := askN_E h g o m f _ t w hg hr ht
  clear hr ht
  go_enter Tryz.func11, Tryz.ntmps11
  go_wp2_with fail
  refine (CA.out).mono ?_
  rintro e w1 ⟨rfl, h1, h2, h3, h4⟩
  have X : Hid (RsAt w1 h g 0 ∧ TkAt w1 g o (.int .i64 t) m f ∧ (∀ B, B ≤ g → B ≤ h → Below B w w1) ∧ (∀ k, k ≠ h → w1.heap[k]? = w.heap[k]?)) := ⟨h1, h2, h3, h4⟩
  clear h1 h2 h3 h4
  go_wp2
  go_ret
  exact ⟨rfl, X.out⟩
end Go.Proofs.YtoiipiapgidbiaaGreatDoor
