/- A resource of nothing is started, and asked for its time; no statement of the seat is proved here. -/
import Derived.Test.YtoiipiapgidbiaaGreatDoorSnI
import Derived.Test.YtoiipiapgidbiaaGreatDoorSnL
namespace Go.Proofs.YtoiipiapgidbiaaGreatDoor
set_option linter.unusedVariables false
set_option linter.unusedSimpArgs false
open Go.RowKit
open Go.MuLone
theorem tkR {w : World} {g : Nat} {o t m f : Value} (h : TkAt w g o t m f) : w.cell? ⟨g, 0, none⟩ = some (.slice none 0 0) ∧ w.cell? ⟨g, 4, none⟩ = some o ∧ w.cell? ⟨g, 5, none⟩ = some (.slice none 0 0) ∧ w.cell? ⟨g, 6, none⟩ = some t ∧ w.cell? ⟨g, 7, none⟩ = some m ∧ w.cell? ⟨g, 8, none⟩ = some f ∧ (∀ i, w.frozen? ⟨g, i, none⟩ = false) := by
  obtain ⟨F, M, y, q⟩ := h
  refine ⟨?_, ?_, ?_, ?_, ?_, ?_, fun i => ?_⟩
  · simp [World.cell?, q]
  · simp [World.cell?, q]
  · simp [World.cell?, q]
  · simp [World.cell?, q]
  · simp [World.cell?, q]
  · simp [World.cell?, q]
  · simp [World.frozen?, q]
theorem TkAt.s6 {w : World} {g : Nat} {o t m f : Value} (h : TkAt w g o t m f) (v : Value) : TkAt (w.setCell ⟨g, 6, none⟩ v) g o v m f := by
  obtain ⟨F, M, y, q⟩ := h; exact ⟨F, M, y, heap_setCell_same _ g 6 _ _ _ q⟩
theorem TkAt.s7 {w : World} {g : Nat} {o t m f : Value} (h : TkAt w g o t m f) (v : Value) : TkAt (w.setCell ⟨g, 7, none⟩ v) g o t v f := by
  obtain ⟨F, M, y, q⟩ := h; exact ⟨F, M, y, heap_setCell_same _ g 7 _ _ _ q⟩
theorem TkAt.s8 {w : World} {g : Nat} {o t m f : Value} (h : TkAt w g o t m f) (v : Value) : TkAt (w.setCell ⟨g, 8, none⟩ v) g o t m v := by
  obtain ⟨F, M, y, q⟩ := h; exact ⟨F, M, y, heap_setCell_same _ g 8 _ _ _ q⟩
theorem TkAt.oth {w : World} {g : Nat} {o t m f : Value} (h : TkAt w g o t m f) (k i : Nat) (v : Value) (hk : g ≠ k) : TkAt (w.setCell ⟨k, i, none⟩ v) g o t m f := by
  obtain ⟨F, M, y, q⟩ := h; exact ⟨F, M, y, (Below.heap_setCell _ _ _ _ (by show g ≠ k; exact hk)).trans q⟩
theorem TkAt.bel {w v : World} {g : Nat} {o t m f : Value} (h : TkAt w g o t m f) (hb : Below w.heap.size w v) : TkAt v g o t m f := by
  obtain ⟨F, M, y, q⟩ := h; exact ⟨F, M, y, (hb.block _ (blk_in2 q)).trans q⟩
/-- A resource of sched's in block h: its lock's state, and the resource of tasks that it runs. -/
def RsAt (w : World) (h g : Nat) (s : Int) : Prop := w.heap[h]? = some (.cells #[.int .i32 s, .int .u32 0, .pointer (some ⟨g, 0, none⟩)] 37 (0, 0))
theorem rsR {w : World} {h g : Nat} {s : Int} (q : RsAt w h g s) : w.cell? ⟨h, 0, none⟩ = some (.int .i32 s) ∧ w.cell? ⟨h, 2, none⟩ = some (.pointer (some ⟨g, 0, none⟩)) ∧ (∀ i, w.frozen? ⟨h, i, none⟩ = false) := by
  refine ⟨?_, ?_, fun i => ?_⟩
  · simp [World.cell?, show w.heap[h]? = _ from q]
  · simp [World.cell?, show w.heap[h]? = _ from q]
  · simp [World.frozen?, show w.heap[h]? = _ from q]
theorem RsAt.lock {w : World} {h g : Nat} {s : Int} (q : RsAt w h g s) (s' : Int) : RsAt (w.setCell ⟨h, 0, none⟩ (.int .i32 s')) h g s' := heap_setCell_same _ h 0 _ _ _ q
theorem RsAt.oth {w : World} {h g : Nat} {s : Int} (q : RsAt w h g s) (k i : Nat) (v : Value) (hk : h ≠ k) : RsAt (w.setCell ⟨k, i, none⟩ v) h g s := (Below.heap_setCell _ _ _ _ (by show h ≠ k; exact hk)).trans q
theorem RsAt.bel {w v : World} {h g : Nat} {s : Int} (q : RsAt w h g s) (hb : Below w.heap.size w v) : RsAt v h g s := (hb.block _ (blk_in2 q)).trans q
set_option maxRecDepth 20000 in
theorem forget_E (g : Nat) (o t m f : Value) (w : World) (h : TkAt w g o t m f) : Calls Tryz.prog 43 #[.pointer (some ⟨g, 0, none⟩)] w fun e w' => e = .returned (.tuple #[]) ∧ w' = w := by
  obtain ⟨c0, c4, c5, c6, c7, c8, fz⟩ := tkR h
  clear h
  go_enter Tryz.func43, Tryz.ntmps43
  go_upto_region 1 with fail
  go_loopw [8] (fun i wr => i = .int .i64 0 ∧ wr = w) (fun _ _ => 0)
  case atStart => exact ⟨rfl, rfl⟩
  case round =>
    obtain ⟨rfl, rfl⟩ := hrel
    go_wp2
    go_end0
    exact ⟨rfl, rfl⟩
set_option maxRecDepth 20000 in
theorem startT_E (g : Nat) (o t f : Value) (w : World) (h : TkAt w g o t (.int .i64 1) f) : Calls Tryz.prog 20 #[.pointer (some ⟨g, 0, none⟩)] w fun e w' => e = .returned (.int .i64 0) ∧ w' = (w.setCell ⟨g, 7, none⟩ (.int .i64 2)).setCell ⟨g, 8, none⟩ (.bool true) := by
  obtain ⟨c0, c4, c5, c6, c7, c8, fz⟩ := tkR h
  obtain ⟨d0, d4, d5, d6, d7, d8, dz⟩ := tkR (h.s7 (.int .i64 2))
  go_enter Tryz.func20, Tryz.ntmps20
  go_wp2_with fail
  refine (forget_E g o t _ f w h).mono ?_
  rintro e w1 ⟨rfl, rfl⟩
  go_wp2
  go_ret
  exact ⟨rfl, rfl⟩
set_option maxRecDepth 20000 in
theorem nowT_E (g : Nat) (o t m f : Value) (w : World) (h : TkAt w g o t m f) : Calls Tryz.prog 27 #[.pointer (some ⟨g, 0, none⟩)] w fun e w' => e = .returned t ∧ w' = w := by
  obtain ⟨c0, c4, c5, c6, c7, c8, fz⟩ := tkR h
  go_enter Tryz.func27, Tryz.ntmps27
  go_wp2
  go_ret
  exact ⟨rfl, rfl⟩
set_option maxRecDepth 20000 in
set_option maxHeartbeats 4000000 in
theorem askS_E (h g : Nat) (o t f n : Value) (w : World) (hg : g ≠ h) (hr : RsAt w h g 0) (ht : TkAt w g o t (.int .i64 1) f) : Calls Tryz.prog 16 #[.pointer (some ⟨h, 0, none⟩), n, .func (.func 20) #[] #[]] w fun e w' => e = .returned (.int .i64 0) ∧ RsAt w' h g 0 ∧ TkAt w' g o t (.int .i64 2) (.bool true) ∧ (∀ B, B ≤ g → B ≤ h → Below B w w') := by
  obtain ⟨r0, r2, rz⟩ := rsR hr
  have T1 : Hid (TkAt (w.setCell ⟨h, 0, none⟩ (.int .i32 1)) g o t (.int .i64 1) f) := ht.oth h 0 _ hg
  have R1 : Hid (RsAt (w.setCell ⟨h, 0, none⟩ (.int .i32 1)) h g 1) := hr.lock 1
  go_enter_defers Tryz.func16, Tryz.ntmps16
  go_wp2_with (go_at_call 35; refine (lock_free muLib ⟨h, 0, none⟩ _ r0 (rz 0)).mono ?_; rintro e w' ⟨rfl, rfl⟩)
  refine (startT_E g o t f _ T1.out).mono ?_
  rintro e w1 ⟨rfl, rfl⟩
  have T2 : Hid (TkAt (((w.setCell ⟨h, 0, none⟩ (.int .i32 1)).setCell ⟨g, 7, none⟩ (.int .i64 2)).setCell ⟨g, 8, none⟩ (.bool true)) g o t (.int .i64 2) (.bool true)) := (T1.out.s7 _).s8 _
  have R2 : Hid (RsAt (((w.setCell ⟨h, 0, none⟩ (.int .i32 1)).setCell ⟨g, 7, none⟩ (.int .i64 2)).setCell ⟨g, 8, none⟩ (.bool true)) h g 1) := (R1.out.oth g 7 _ (Ne.symm hg)).oth g 8 _ (Ne.symm hg)
  have B2 : Hid (∀ B, B ≤ g → B ≤ h → Below B w (((w.setCell ⟨h, 0, none⟩ (.int .i32 1)).setCell ⟨g, 7, none⟩ (.int .i64 2)).setCell ⟨g, 8, none⟩ (.bool true))) := fun B h1 h2 => (((Below.refl _ _).setCell (by show B ≤ h; exact h2) _).setCell (by show B ≤ g; exact h1) _).setCell (by show B ≤ g; exact h1) _
  generalize (((w.setCell ⟨h, 0, none⟩ (.int .i32 1)).setCell ⟨g, 7, none⟩ (.int .i64 2)).setCell ⟨g, 8, none⟩ (.bool true)) = W at *
  clear r0 r2 rz T1 R1 hr ht
  obtain ⟨r0, r2, rz⟩ := rsR R2.out
  go_wp2
  refine leaves_cons (f := 36) (args := #[.pointer (some ⟨h, 0, none⟩)]) (by simp) (by simp [go_sem]) ?_
  refine (unlock_deferred muLib ⟨h, 0, none⟩ .returning _ r0 (rz 0)).mono ?_
  rintro e u' w'' ⟨rfl, rfl, rfl⟩
  exact ⟨_, results_tmp rfl _ _ _, rfl, R2.out.lock 0, T2.out.oth h 0 _ hg, fun B h1 h2 => (B2.out B h1 h2).setCell (by show B ≤ h; exact h2) _⟩
end Go.Proofs.YtoiipiapgidbiaaGreatDoor
