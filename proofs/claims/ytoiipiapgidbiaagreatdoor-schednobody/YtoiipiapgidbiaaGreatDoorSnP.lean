/- A resource of nothing starts and lets time go on: awake is true; no statement of the seat is proved here. -/
import Derived.Test.YtoiipiapgidbiaaGreatDoorSnO
import Derived.Test.YtoiipiapgidbiaaGreatDoorSnB
namespace Go.Proofs.YtoiipiapgidbiaaGreatDoor
set_option linter.unusedVariables false
set_option linter.unusedSimpArgs false
open Go.RowKit
open Go.MuLone
set_option maxRecDepth 20000 in
set_option maxHeartbeats 4000000 in
theorem askE_E (h g b1 b2 b3 : Nat) (f n : Value) (w : World) (hg : g ≠ h) (hr : RsAt w h g 0) (hT : TkAt w g (.slice none 0 0) (.int .i64 0) (.int .i64 2) f) (h1 : w.heap[b1]? = some (.cells #[.int .i64 7] 3 (0, 0))) (h2 : w.heap[b2]? = some (.cells #[.slice none 0 0] 26 (0, 0))) (h3 : w.heap[b3]? = some (.cells zr 42 (0, 0))) (d1 : b1 ≠ g) (d2 : b2 ≠ g) (d3 : b3 ≠ g) (e1 : b1 ≠ b3) (e2 : b2 ≠ b3) (k1 : b1 ≠ h) (k2 : b2 ≠ h) (k3 : b3 ≠ h) :
    Calls Tryz.prog 16 #[.pointer (some ⟨h, 0, none⟩), n, .func (.func 17) #[] #[.pointer (some ⟨b1, 0, none⟩), .pointer (some ⟨b2, 0, none⟩), .pointer (some ⟨b3, 0, none⟩)]] w fun e w' => e = .returned (.int .i64 0) ∧ RsAt w' h g 0 ∧ TkAt w' g (.slice none 0 0) (.int .i64 7) (.int .i64 2) (.bool false) ∧ w'.heap[b3]? = some (.cells rz7 42 (0, 0)) ∧ (∀ B, B ≤ g → B ≤ h → B ≤ b3 → Below B w w') := by
  obtain ⟨r0, r2, rz⟩ := rsR hr
  have R1 : Hid (RsAt (w.setCell ⟨h, 0, none⟩ (.int .i32 1)) h g 1) := hr.lock 1
  have CL : Hid (Calls Tryz.prog 17 #[.pointer (some ⟨g, 0, none⟩), .pointer (some ⟨b1, 0, none⟩), .pointer (some ⟨b2, 0, none⟩), .pointer (some ⟨b3, 0, none⟩)] (w.setCell ⟨h, 0, none⟩ (.int .i32 1)) fun e w' => e = .returned (.int .i64 0) ∧ TkAt w' g (.slice none 0 0) (.int .i64 7) (.int .i64 2) (.bool false) ∧ w'.heap[b3]? = some (.cells rz7 42 (0, 0)) ∧ Keep2 g b3 (w.setCell ⟨h, 0, none⟩ (.int .i32 1)) w') :=
    clo_E g b1 b2 b3 f _ (hT.oth h 0 _ hg) ((Below.heap_setCell _ _ _ _ (by show b1 ≠ h; exact k1)).trans h1) ((Below.heap_setCell _ _ _ _ (by show b2 ≠ h; exact k2)).trans h2) ((Below.heap_setCell _ _ _ _ (by show b3 ≠ h; exact k3)).trans h3) d1 d2 d3 e1 e2
  clear h1 h2 h3 d1 d2 d3 e1 e2 k1 k2 hT hr
  go_enter_defers Tryz.func16, Tryz.ntmps16
  go_wp2_with (go_at_call 35; refine (lock_free muLib ⟨h, 0, none⟩ _ r0 (rz 0)).mono ?_; rintro e w' ⟨rfl, rfl⟩)
  refine (CL.out).mono ?_
  rintro e w1 ⟨rfl, ht, hx, hk⟩
  have T2 : Hid (TkAt w1 g (.slice none 0 0) (.int .i64 7) (.int .i64 2) (.bool false)) := ht
  have X2 : Hid (w1.heap[b3]? = some (.cells rz7 42 (0, 0))) := hx
  have R2 : Hid (RsAt w1 h g 1) := hk.rs R1.out (Ne.symm hg) (Ne.symm k3)
  have B2 : Hid (∀ B, B ≤ g → B ≤ h → B ≤ b3 → Below B w w1) := fun B q1 q2 q3 => ((Below.refl _ _).setCell (by show B ≤ h; exact q2) _).trans (hk.1 B q1 q3)
  clear r0 r2 rz R1 CL ht hx hk
  obtain ⟨r0, r2, rz⟩ := rsR R2.out
  go_wp2
  refine leaves_cons (f := 36) (args := #[.pointer (some ⟨h, 0, none⟩)]) (by simp) (by simp [go_sem]) ?_
  refine (unlock_deferred muLib ⟨h, 0, none⟩ .returning _ r0 (rz 0)).mono ?_
  rintro e u' w'' ⟨rfl, rfl, rfl⟩
  exact ⟨_, results_tmp rfl _ _ _, rfl, R2.out.lock 0, T2.out.oth h 0 _ hg, (Below.heap_setCell _ _ _ _ (by show b3 ≠ h; exact k3)).trans X2.out, fun B q1 q2 q3 => (B2.out B q1 q2 q3).setCell (by show B ≤ h; exact q2) _⟩
theorem three_at (w : World) (a b c : Obj) : (((w.alloc a).alloc b).alloc c).heap[w.heap.size]? = some a ∧ (((w.alloc a).alloc b).alloc c).heap[w.heap.size + 1]? = some b ∧ (((w.alloc a).alloc b).alloc c).heap[w.heap.size + 2]? = some c ∧ Below w.heap.size w (((w.alloc a).alloc b).alloc c) := by
  refine ⟨?_, ?_, ?_, (((Below.refl _ _).alloc (Nat.le_refl _) _).alloc (by simp) _).alloc (by simp; omega) _⟩
  · exact (Below.heap_alloc _ _ _ (by simp; omega)).trans ((Below.heap_alloc _ _ _ (by simp)).trans (heap_alloc_last _ _))
  · have q := heap_alloc_last (w.alloc a) b
    rw [show (w.alloc a).heap.size = w.heap.size + 1 by simp] at q
    exact (Below.heap_alloc _ _ _ (by simp)).trans q
  · have q := heap_alloc_last ((w.alloc a).alloc b) c
    rw [show ((w.alloc a).alloc b).heap.size = w.heap.size + 2 by simp] at q
    exact q
set_option maxRecDepth 20000 in
set_option maxHeartbeats 4000000 in
theorem entryS_E (h g : Nat) (f : Value) (w : World) (hg : g ≠ h) (hr : RsAt w h g 0) (hT : TkAt w g (.slice none 0 0) (.int .i64 0) (.int .i64 2) f) :
    Calls Tryz.prog 4 #[.pointer (some ⟨h, 0, none⟩), .int .i64 7, .slice none 0 0] w fun e w' => e = .returned (.tuple #[.agg rz7, .int .i64 0]) ∧ RsAt w' h g 0 ∧ TkAt w' g (.slice none 0 0) (.int .i64 7) (.int .i64 2) (.bool false) ∧ (∀ B, B ≤ g → B ≤ h → Below B w w') := by
  have L : Hid (g < w.heap.size ∧ h < w.heap.size) := ⟨by obtain ⟨_, _, _, q⟩ := hT; exact blk_in2 q, blk_in2 hr⟩
  obtain ⟨W, eW⟩ : ∃ W, W = ((w.alloc (.cells #[.int .i64 7] 3 (0, 0))).alloc (.cells #[.slice none 0 0] 26 (0, 0))).alloc (.cells zr 42 (0, 0)) := ⟨_, rfl⟩
  obtain ⟨q1, q2, q3, qb⟩ := three_at w (.cells #[.int .i64 7] 3 (0, 0)) (.cells #[.slice none 0 0] 26 (0, 0)) (.cells zr 42 (0, 0))
  rw [← eW] at q1 q2 q3 qb
  have QB : Hid (Below w.heap.size w W) := qb
  have CA : Hid (Calls Tryz.prog 16 #[.pointer (some ⟨h, 0, none⟩), .int .i64 8, .func (.func 17) #[] #[.pointer (some ⟨w.heap.size, 0, none⟩), .pointer (some ⟨w.heap.size + 1, 0, none⟩), .pointer (some ⟨w.heap.size + 2, 0, none⟩)]] W fun e w' => e = .returned (.int .i64 0) ∧ RsAt w' h g 0 ∧ TkAt w' g (.slice none 0 0) (.int .i64 7) (.int .i64 2) (.bool false) ∧ w'.heap[w.heap.size + 2]? = some (.cells rz7 42 (0, 0)) ∧ (∀ B, B ≤ g → B ≤ h → B ≤ w.heap.size + 2 → Below B W w')) := by
    have l1 := L.out.1
    have l2 := L.out.2
    exact askE_E h g _ _ _ f _ W hg (hr.bel qb) (hT.bel qb) q1 q2 q3 (by omega) (by omega) (by omega) (by omega) (by omega) (by omega) (by omega) (by omega)
  clear q1 q2 q3 qb hr hT
  go_enter Tryz.func4, Tryz.ntmps4
  go_upto_region 1 with fail
  rw [← eW]
  clear eW
  go_wp2_with fail
  refine (CA.out).mono ?_
  rintro e w1 ⟨rfl, k1, k2, k3, k4⟩
  have R1 : Hid (RsAt w1 h g 0) := k1
  have T1 : Hid (TkAt w1 g (.slice none 0 0) (.int .i64 7) (.int .i64 2) (.bool false)) := k2
  have X1 : Hid (w1.heap[w.heap.size + 2]? = some (.cells rz7 42 (0, 0))) := k3
  have B1 : Hid (∀ B, B ≤ g → B ≤ h → Below B w w1) := fun B p1 p2 => (QB.out.mono (by have := L.out; omega)).trans (k4 B p1 p2 (by have := L.out; omega))
  clear k1 k2 k3 k4 CA QB
  have hX := X1.out
  go_wp2_with (first | (refine wpList_load_row rfl 42 _ rfl (w.heap.size + 2) rfl _ rz7 (0, 0) _ hX Tryz.underlying42 rfl rep_info ?_) | (refine wpList_store_row rfl 42 _ _ rfl (w.heap.size + 2) _ rfl rfl _ _ hX rep_info rfl (by kernel_rfl) ?_))
  exact bodyPost_ret (v := .tuple #[.agg rz7, .int .i64 0]) (results_cell_row_1 Tryz.results4 _ _ (w.heap.size + 2) _ _ (0, 0) _ (by first | rfl | simp [Act.put]) (setRow_heap _ _ _ _ _ _ hX) Tryz.underlying42 rfl rep_info) rfl ⟨rfl, (setRow_other _ _ _ _ (by have := L.out; omega)).trans R1.out, T1.out.row (by have := L.out; omega) _, fun B p1 p2 => (B1.out B p1 p2).trans (below_setRow (Below.refl _ _) (by have := L.out; omega) _)⟩
end Go.Proofs.YtoiipiapgidbiaaGreatDoor
