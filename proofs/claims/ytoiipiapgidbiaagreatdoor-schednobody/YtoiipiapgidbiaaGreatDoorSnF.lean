/- An image without anything: Check takes it; no statement of the seat is proved here. -/
import Derived.Test.YtoiipiapgidbiaaGreatDoorSnE
namespace Go.Proofs.YtoiipiapgidbiaaGreatDoor
set_option linter.unusedVariables false
set_option linter.unusedSimpArgs false
open Go.RowKit
set_option maxRecDepth 20000 in
set_option maxHeartbeats 4000000 in
theorem check_E (w : World) : Calls Tryz.prog 48 #[.agg mE] w fun e w' => e = .returned (.tuple #[.int .i64 0, .int .i64 0, .int .i64 0]) ∧ Below w.heap.size w w' := by
  have E0 : ∀ (args : Array Value) (W : World), (callFunc 62 args).run Tryz.prog W = .ok (.enter 62 args) W := fun _ _ => by kernel_rfl
  have E1 : ∀ (args : Array Value) (W : World), (callFunc 63 args).run Tryz.prog W = .ok (.enter 63 args) W := fun _ _ => by kernel_rfl
  have E2 : ∀ (args : Array Value) (W : World), (callFunc 64 args).run Tryz.prog W = .ok (.enter 64 args) W := fun _ _ => by kernel_rfl
  have E3 : ∀ (args : Array Value) (W : World), (callFunc 65 args).run Tryz.prog W = .ok (.enter 65 args) W := fun _ _ => by kernel_rfl
  obtain ⟨AW, eW⟩ : ∃ AW, AW = w.alloc (.cells mE 73) := ⟨_, rfl⟩
  have AB : Hid (Below w.heap.size w AW) := by rw [eW]; exact elB _ _
  have AX : Hid (AW.heap[w.heap.size]? = some (.cells mE 73 (0, 0))) := by rw [eW]; exact heap_alloc_last _ _
  go_enter Tryz.func48, Tryz.ntmps48
  go_wp2_with fail
  rw [← eW]
  clear eW
  go_loopw [9] (fun i wr => ∃ k : Nat, k ≤ 4 ∧ i = .int .i64 k ∧ Below w.heap.size w wr ∧ wr.heap[w.heap.size]? = some (.cells mE 73 (0, 0))) (fun i _ => 4 - (intOf i).toNat)
  case atStart => exact ⟨0, Nat.zero_le _, rfl, AB.out, AX.out⟩
  case round =>
    obtain ⟨k, hk, rfl, hbw, hx⟩ := hrel
    have HW : Hid (Below w.heap.size w wr) := hbw
    have HX : Hid (wr.heap[w.heap.size]? = some (.cells mE 73 (0, 0))) := hx
    clear hbw hx AB AX
    by_cases hlt : k < 4
    · have k0 : wr.cell? ⟨w.heap.size, 0, none⟩ = some (.string ⟨#[77]⟩) := by simp [World.cell?, HX.out]
      have k1 : wr.cell? ⟨w.heap.size, 1, none⟩ = some (.slice none 0 0) := by simp [World.cell?, HX.out]
      have k2 : wr.cell? ⟨w.heap.size, 2, none⟩ = some (.slice none 0 0) := by simp [World.cell?, HX.out]
      have k3 : wr.cell? ⟨w.heap.size, 3, none⟩ = some (.slice none 0 0) := by simp [World.cell?, HX.out]
      rcases (show k = 0 ∨ k = 1 ∨ k = 2 ∨ k = 3 by omega) with rfl | rfl | rfl | rfl
      · have ix : ∀ W : World, (Instr.index 116 (.agg #[.func (.func 62) #[] #[], .func (.func 63) #[] #[], .func (.func 64) #[] #[], .func (.func 65) #[] #[]]) (.int .i64 0)).run Tryz.prog W = .ok (.func (.func 62) #[] #[]) W := fun W => by kernel_rfl
        go_wp2_with fail
        refine (head_E wr).mono ?_
        rintro e v1 ⟨rfl, hb1⟩
        have V1 : Hid (Below wr.heap.size wr v1) := hb1
        clear hb1 k0 k1 k2 k3
        have W1 : Hid (∀ X : Obj, Below w.heap.size w (v1.alloc X)) := fun X => HW.out.trans ((V1.out.trans ((elB _ X).mono V1.out.size)).mono HW.out.size)
        have X1 : Hid (∀ X : Obj, (v1.alloc X).heap[w.heap.size]? = some (.cells mE 73 (0, 0))) := fun X => ((V1.out.trans ((elB _ X).mono V1.out.size)).block _ (blk_in2 HX.out)).trans HX.out
        go_wp2
        exact ⟨⟨0 + 1, by omega, rfl, W1.out _, X1.out _⟩, by decide⟩
      · have ix : ∀ W : World, (Instr.index 116 (.agg #[.func (.func 62) #[] #[], .func (.func 63) #[] #[], .func (.func 64) #[] #[], .func (.func 65) #[] #[]]) (.int .i64 1)).run Tryz.prog W = .ok (.func (.func 63) #[] #[]) W := fun W => by kernel_rfl
        go_wp2_with fail
        refine (cell_E wr).mono ?_
        rintro e v1 ⟨rfl, hb1⟩
        have V1 : Hid (Below wr.heap.size wr v1) := hb1
        clear hb1 k0 k1 k2 k3
        have W1 : Hid (∀ X : Obj, Below w.heap.size w (v1.alloc X)) := fun X => HW.out.trans ((V1.out.trans ((elB _ X).mono V1.out.size)).mono HW.out.size)
        have X1 : Hid (∀ X : Obj, (v1.alloc X).heap[w.heap.size]? = some (.cells mE 73 (0, 0))) := fun X => ((V1.out.trans ((elB _ X).mono V1.out.size)).block _ (blk_in2 HX.out)).trans HX.out
        go_wp2
        exact ⟨⟨1 + 1, by omega, rfl, W1.out _, X1.out _⟩, by decide⟩
      · have ix : ∀ W : World, (Instr.index 116 (.agg #[.func (.func 62) #[] #[], .func (.func 63) #[] #[], .func (.func 64) #[] #[], .func (.func 65) #[] #[]]) (.int .i64 2)).run Tryz.prog W = .ok (.func (.func 64) #[] #[]) W := fun W => by kernel_rfl
        go_wp2_with fail
        refine (code_E wr).mono ?_
        rintro e v1 ⟨rfl, hb1⟩
        have V1 : Hid (Below wr.heap.size wr v1) := hb1
        clear hb1 k0 k1 k2 k3
        have W1 : Hid (∀ X : Obj, Below w.heap.size w (v1.alloc X)) := fun X => HW.out.trans ((V1.out.trans ((elB _ X).mono V1.out.size)).mono HW.out.size)
        have X1 : Hid (∀ X : Obj, (v1.alloc X).heap[w.heap.size]? = some (.cells mE 73 (0, 0))) := fun X => ((V1.out.trans ((elB _ X).mono V1.out.size)).block _ (blk_in2 HX.out)).trans HX.out
        go_wp2
        exact ⟨⟨2 + 1, by omega, rfl, W1.out _, X1.out _⟩, by decide⟩
      · have ix : ∀ W : World, (Instr.index 116 (.agg #[.func (.func 62) #[] #[], .func (.func 63) #[] #[], .func (.func 64) #[] #[], .func (.func 65) #[] #[]]) (.int .i64 3)).run Tryz.prog W = .ok (.func (.func 65) #[] #[]) W := fun W => by kernel_rfl
        go_wp2_with fail
        refine (job_E wr).mono ?_
        rintro e v1 ⟨rfl, hb1⟩
        have V1 : Hid (Below wr.heap.size wr v1) := hb1
        clear hb1 k0 k1 k2 k3
        have W1 : Hid (∀ X : Obj, Below w.heap.size w (v1.alloc X)) := fun X => HW.out.trans ((V1.out.trans ((elB _ X).mono V1.out.size)).mono HW.out.size)
        have X1 : Hid (∀ X : Obj, (v1.alloc X).heap[w.heap.size]? = some (.cells mE 73 (0, 0))) := fun X => ((V1.out.trans ((elB _ X).mono V1.out.size)).block _ (blk_in2 HX.out)).trans HX.out
        go_wp2
        exact ⟨⟨3 + 1, by omega, rfl, W1.out _, X1.out _⟩, by decide⟩
    · have ek : k = 4 := by omega
      subst ek
      clear hlt hk
      go_wp2
      exact bodyPost_ret (v := .tuple #[.int .i64 0, .int .i64 0, .int .i64 0]) (by simp [results, Tryz.results48, go_sem]) rfl ⟨rfl, HW.out⟩
theorem clC0_nilT (w : World) : (binOp .eql 69 (.slice none 0 0) (.slice none 0 0)).run Tryz.prog w = .ok (.bool true) w := by kernel_rfl
theorem clC0 (w : World) : Calls Tryz.prog 66 #[.slice none 0 0] w fun e w' => e = .returned (.slice none 0 0) ∧ Below w.heap.size w w' := by
  have sn := clC0_nilT
  go_enter Tryz.func66, Tryz.ntmps66
  go_wp2
  go_ret
  exact ⟨rfl, Below.refl _ _⟩
theorem clF0_nilT (w : World) : (binOp .eql 70 (.slice none 0 0) (.slice none 0 0)).run Tryz.prog w = .ok (.bool true) w := by kernel_rfl
theorem clF0 (w : World) : Calls Tryz.prog 68 #[.slice none 0 0] w fun e w' => e = .returned (.slice none 0 0) ∧ Below w.heap.size w w' := by
  have sn := clF0_nilT
  go_enter Tryz.func68, Tryz.ntmps68
  go_wp2
  go_ret
  exact ⟨rfl, Below.refl _ _⟩
end Go.Proofs.YtoiipiapgidbiaaGreatDoor
