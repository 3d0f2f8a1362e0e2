/- image: may an instruction's value be; may a code's loops be; no statement of the seat is proved here. -/
import Derived.Test.YtonadfpjoocopaaGreatCkHY
namespace Go.Proofs.YtonadfpjoocopaaGreat
set_option linter.unusedVariables false
open Go.RowKit
theorem eqZv (k b : Int) (s : ByteArray) (w : World) : (binOp .eql 38 (.agg #[.int .u8 k, .int .u64 b, .string s]) (.agg #[.int .u8 0, .int .u64 0, .string ⟨#[]⟩])).run Tryz.prog w = .ok (.bool (decide (k = 0) && decide (b = 0) && emB s)) w := by
  unfold emB
  by_cases h1 : k = 0
  · subst h1
    by_cases h2 : b = 0
    · subst h2
      by_cases h3 : s.toList = []
      · simp [go_sem, h3]
      · simp [go_sem, h3]
    · simp [go_sem, h2]
  · simp [go_sem, h1]
set_option maxRecDepth 20000 in
set_option maxHeartbeats 4000000 in
theorem mayHold_of (o : OpR) (ho : OpOk o) (w : World) : Calls Tryz.prog 60 #[OpV o] w fun e w' => e = .returned (.bool (hdB o)) ∧ Below w.heap.size w w' := by
  obtain ⟨h1, h2, h3, h4, h5, h6, h7, h8, h9, h10⟩ := ho
  have g8 := wf_u8 h8
  have g9 := wf_u64 h9
  have g10 := sh_max h10
  clear h1 h2 h3 h4 h5 h6 h7 h8 h9 h10
  obtain ⟨cd, oa, ob, oc, od, lo, hi, vk, vb, vs⟩ := o
  simp only at g8 g9 g10
  unfold hdB
  simp only
  have M1 : Hid (∀ W, Calls Tryz.prog 85 #[.agg #[.int .u8 vk, .int .u64 vb, .string vs]] W fun e w' => e = .returned (.bool (may3 vk vb vs)) ∧ Below W.heap.size W w') := fun W => May_of vk vb vs W g9.1 g9.2 g8 g10
  clear g8 g9 g10
  by_cases q : cd = 1
  · subst q
    rw [if_pos rfl]
    have ev := eqNw vk vb vs
    generalize may3 vk vb vs = r1 at *
    generalize nwB vk vb vs = r2 at *
    have N1 : Hid (∀ W, Calls Tryz.prog 81 #[] W fun e w' => e = .returned (.agg #[.int .u8 20, .int .u64 0, .string ⟨#[]⟩]) ∧ Below W.heap.size W w') := fun W => nowhere_of W
    cases r1
    all_goals
      go_enter Tryz.func60, Tryz.ntmps60
      go_wp2_with fail
      obtain ⟨AW, eW⟩ : ∃ AW, AW = w.alloc (.cells #[.int .i64 1, .int .i64 oa, .int .i64 ob, .int .i64 oc, .int .i64 od, .int .i64 lo, .int .i64 hi, .int .u8 vk, .int .u64 vb, .string vs] 59 (0, 0)) := ⟨_, rfl⟩
      have AX : AW.heap[w.heap.size]? = some (.cells #[.int .i64 1, .int .i64 oa, .int .i64 ob, .int .i64 oc, .int .i64 od, .int .i64 lo, .int .i64 hi, .int .u8 vk, .int .u64 vb, .string vs] 59 (0, 0)) := by rw [eW]; exact heap_alloc_last _ _
      have AB : Hid (Below w.heap.size w AW) := by rw [eW]; exact (Below.refl _ _).alloc (Nat.le_refl _) _
      rw [← eW]
      clear eW
      have zl := blk_in AX
      have c7 : ∀ y : Sub AW, y.w.cell? ⟨w.heap.size, 7, none⟩ = some (.int .u8 vk) := fun y => (y.h.cell (p := ⟨w.heap.size, 7, none⟩) zl).trans (by simp [World.cell?, AX])
      have c8 : ∀ y : Sub AW, y.w.cell? ⟨w.heap.size, 8, none⟩ = some (.int .u64 vb) := fun y => (y.h.cell (p := ⟨w.heap.size, 8, none⟩) zl).trans (by simp [World.cell?, AX])
      have c9 : ∀ y : Sub AW, y.w.cell? ⟨w.heap.size, 9, none⟩ = some (.string vs) := fun y => (y.h.cell (p := ⟨w.heap.size, 9, none⟩) zl).trans (by simp [World.cell?, AX])
      have M2 : Hid (∀ y : Sub AW, _) := fun y => M1.out y.w
      have N2 : Hid (∀ y : Sub AW, _) := fun y => N1.out y.w
      clear AX
      refine wp_region_sub2 (by kernel_rfl) (by kernel_rfl) ?_
      intro cx
      clear cx
      repeat (first | go_big_quiet_skip | (go_big_quiet_want; go_big_quiet_op; first | go_big_quiet_on | (refine ⟨_, fun _ => rfl, ?_⟩; go_big_quiet_on) | go_big_quiet_call (first | (go_at_call 81; exact calls_sub (N2.out _)) | (go_at_call 85; exact calls_sub (M2.out _)))))
      refine wpQuiet_nil ?_
      rintro _ ⟨y, rfl⟩
      have Y : Hid (Below w.heap.size w y.w) := bl_tr AB.out y.h
      clear c7 c8 c9 N2 M2 zl ev
      go_wp2
      go_ret
      exact ⟨by first | rfl | simp, Y.out⟩
  · rw [if_neg q]
    have p : (cd == 1) = false := by simp [q]
    clear q M1
    have ev := eqZv vk vb vs
    generalize (decide (vk = 0) && decide (vb = 0) && emB vs) = r at *
    go_enter Tryz.func60, Tryz.ntmps60
    go_wp2
    go_ret
    exact ⟨rfl, by go_grown⟩
end Go.Proofs.YtonadfpjoocopaaGreat
