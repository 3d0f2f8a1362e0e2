/- image: may a task run so; no statement of the seat is proved here. -/
import Derived.Test.YtkickdmomompjaaGreatCkIK
namespace Go.Proofs.YtkickdmomompjaaGreat
set_option linter.unusedVariables false
open Go.RowKit
/-- A task as a value. -/
abbrev JbV (j : JbR) (y1 y2 : Option Addr) (c1 c2 : Nat) : Value := .agg #[.string j.nm, .int .i64 j.iv, .int .i64 j.sg, .int .i64 j.pr, .slice y1 j.cs.length c1, .slice y2 j.bs.length c2, .int .i64 j.bd]
abbrev ImB (m : ImR) (x1 x2 x3 : Option Addr) (p1 p2 p3 : Nat) : Value := .agg #[.string m.nm, .slice x1 m.cs.length p1, .slice x2 m.fs.length p2, .slice x3 m.js.length p3]
/-- What the trigger's cell must be. -/
def sgB (l : List CeR) (n : Int) : Bool := decide (n = -1) || (decide (0 ≤ n) && decide (n < l.length) && (match l[n.toNat]? with
  | some c => decide (c.kd = 1)
  | none => false))
theorem sg_m1 (l : List CeR) : sgB l (-1) = true := by unfold sgB; simp
theorem sg_out {l : List CeR} {n : Int} (h : n ≠ -1) (hb : inB 0 ((l.length : Int) - 1) n = false) : sgB l n = false := by
  unfold inB at hb
  unfold sgB
  simp only [Bool.and_eq_false_iff, decide_eq_false_iff_not] at hb
  rw [decide_eq_false h, Bool.false_or]
  rcases hb with q | q
  · rw [decide_eq_false q]; rfl
  · rw [decide_eq_false (show ¬ n < (l.length : Int) by omega), Bool.and_false]; rfl
theorem sg_in {l : List CeR} {n : Int} {c : CeR} (hn : 0 ≤ n) (h : l[n.toNat]? = some c) : sgB l n = decide (c.kd = 1) := by
  unfold sgB
  have := (List.getElem?_eq_some_iff.1 h).1
  rw [decide_eq_false (show ¬ n = -1 by omega), Bool.false_or, decide_eq_true hn, decide_eq_true (show n < l.length by omega), h]
  rfl
set_option maxRecDepth 20000 in
set_option maxHeartbeats 8000000 in
theorem mayTrigger_of (m : ImR) (j : JbR) (y1 y2 : Option Addr) (c1 c2 : Nat) (x1 : Option Addr) (p1 : Nat) (w : World) {S : Nat → Prop} (hS : ∀ b, S b → b < w.heap.size) (ha : RwF 11 (Is ceC) S w x1 m.cs) (hn : m.cs.length ≤ 1048576) :
    Calls Tryz.prog 39 #[JbV j y1 y2 c1 c2, .slice x1 m.cs.length p1] w fun e w' => e = .returned (.bool (trB m j)) ∧ Below w.heap.size w w' := by
  obtain ⟨nm, iv, sg, pr, cs, bs, bd⟩ := j
  unfold trB
  simp only
  show Calls _ _ _ _ fun e w' => e = .returned (.bool (sgB m.cs sg && decide (0 ≤ iv) && inB 0 65535 pr && inB 0 1048576 bd)) ∧ _
  have HA : Hid (RwF 11 (Is ceC) S w x1 m.cs) := ha
  have HS : Hid (∀ b, S b → b < w.heap.size) := hS
  have HB : Hid (∀ W, Calls Tryz.prog 68 #[.int .i64 m.cs.length] W fun e w' => e = .returned (.agg #[.int .i64 0, .int .i64 ((m.cs.length : Int) - 1)]) ∧ Below W.heap.size W w') := fun W => below_of _ (by omega) W
  have H0 : Hid (∀ W, Calls Tryz.prog 63 #[.agg #[.int .i64 0, .int .i64 ((m.cs.length : Int) - 1)], .int .i64 sg] W fun e w' => e = .returned (.bool (inB 0 ((m.cs.length : Int) - 1) sg)) ∧ Below W.heap.size W w') := fun W => has_of _ _ _ W
  have H1 : Hid (∀ W, Calls Tryz.prog 63 #[.agg #[.int .i64 0, .int .i64 65535], .int .i64 pr] W fun e w' => e = .returned (.bool (inB 0 65535 pr)) ∧ Below W.heap.size W w') := fun W => has_of _ _ _ W
  have H2 : Hid (∀ W, Calls Tryz.prog 63 #[.agg #[.int .i64 0, .int .i64 1048576], .int .i64 bd] W fun e w' => e = .returned (.bool (inB 0 1048576 bd)) ∧ Below W.heap.size W w') := fun W => has_of _ _ _ W
  have G0 : Hid (sg ≠ -1 → inB 0 ((m.cs.length : Int) - 1) sg = false → sgB m.cs sg = false) := sg_out
  have G1 : Hid (inB 0 ((m.cs.length : Int) - 1) sg = true → 0 ≤ sg ∧ sg < m.cs.length) := fun h => by have := inB_t h; omega
  clear ha hS hn
  generalize inB 0 65535 pr = r1 at *
  generalize inB 0 1048576 bd = r2 at *
  obtain ⟨AW, eW⟩ : ∃ AW, AW = w.alloc (.cells #[.string nm, .int .i64 iv, .int .i64 sg, .int .i64 pr, .slice y1 cs.length c1, .slice y2 bs.length c2, .int .i64 bd] 61 (0, 0)) := ⟨_, rfl⟩
  have AX : Hid (AW.heap[w.heap.size]? = some (.cells #[.string nm, .int .i64 iv, .int .i64 sg, .int .i64 pr, .slice y1 cs.length c1, .slice y2 bs.length c2, .int .i64 bd] 61 (0, 0))) := by rw [eW]; exact heap_alloc_last _ _
  have AB : Hid (Below w.heap.size w AW) := by rw [eW]; exact (Below.refl _ _).alloc (Nat.le_refl _) _
  by_cases q1 : sg = -1
  · have n1 : (sg == -1) = true := by simp [q1]
    have n1b : (sg != -1) = false := by simp [q1]
    rw [show sgB m.cs sg = true by rw [q1]; exact sg_m1 _, Bool.true_and]
    clear G0 G1 H0 q1
    go_enter Tryz.func39, Tryz.ntmps39
    go_wp2_with fail
    rw [← eW]
    clear eW
    have d0 : ∀ y : Sub AW, y.w.cell? ⟨w.heap.size, 0, none⟩ = some (.string nm) := fun y => (y.h.cell (p := ⟨w.heap.size, 0, none⟩) (blk_in AX.out)).trans (by simp [World.cell?, AX.out])
    have d1 : ∀ y : Sub AW, y.w.cell? ⟨w.heap.size, 1, none⟩ = some (.int .i64 iv) := fun y => (y.h.cell (p := ⟨w.heap.size, 1, none⟩) (blk_in AX.out)).trans (by simp [World.cell?, AX.out])
    have d2 : ∀ y : Sub AW, y.w.cell? ⟨w.heap.size, 2, none⟩ = some (.int .i64 sg) := fun y => (y.h.cell (p := ⟨w.heap.size, 2, none⟩) (blk_in AX.out)).trans (by simp [World.cell?, AX.out])
    have d3 : ∀ y : Sub AW, y.w.cell? ⟨w.heap.size, 3, none⟩ = some (.int .i64 pr) := fun y => (y.h.cell (p := ⟨w.heap.size, 3, none⟩) (blk_in AX.out)).trans (by simp [World.cell?, AX.out])
    have d4 : ∀ y : Sub AW, y.w.cell? ⟨w.heap.size, 4, none⟩ = some (.slice y1 cs.length c1) := fun y => (y.h.cell (p := ⟨w.heap.size, 4, none⟩) (blk_in AX.out)).trans (by simp [World.cell?, AX.out])
    have d5 : ∀ y : Sub AW, y.w.cell? ⟨w.heap.size, 5, none⟩ = some (.slice y2 bs.length c2) := fun y => (y.h.cell (p := ⟨w.heap.size, 5, none⟩) (blk_in AX.out)).trans (by simp [World.cell?, AX.out])
    have d6 : ∀ y : Sub AW, y.w.cell? ⟨w.heap.size, 6, none⟩ = some (.int .i64 bd) := fun y => (y.h.cell (p := ⟨w.heap.size, 6, none⟩) (blk_in AX.out)).trans (by simp [World.cell?, AX.out])
    refine wp_region_sub2 (by kernel_rfl) (by kernel_rfl) ?_
    intro cx
    clear cx
    repeat (first | go_big_quiet_skip | (go_big_quiet_want; go_big_quiet_op; first | go_big_quiet_on | (refine ⟨_, fun _ => rfl, ?_⟩; go_big_quiet_on) | go_big_quiet_call (first | fail)))
    refine wpQuiet_nil ?_
    rintro _ ⟨y, rfl⟩
    obtain ⟨v1, v1h⟩ := y
    have Bv1 : Hid (Below w.heap.size w v1) := bl_tr AB.out v1h
    have Xv1 : Hid (v1.heap[w.heap.size]? = some (.cells #[.string nm, .int .i64 iv, .int .i64 sg, .int .i64 pr, .slice y1 cs.length c1, .slice y2 bs.length c2, .int .i64 bd] 61 (0, 0))) := (v1h.block _ (blk_in AX.out)).trans AX.out
    simp only
    clear d0 d1 d2 d3 d4 d5 d6  v1h
    have k0 : v1.cell? ⟨w.heap.size, 0, none⟩ = some (.string nm) := by simp [World.cell?, Xv1.out]
    have k1 : v1.cell? ⟨w.heap.size, 1, none⟩ = some (.int .i64 iv) := by simp [World.cell?, Xv1.out]
    have k2 : v1.cell? ⟨w.heap.size, 2, none⟩ = some (.int .i64 sg) := by simp [World.cell?, Xv1.out]
    have k3 : v1.cell? ⟨w.heap.size, 3, none⟩ = some (.int .i64 pr) := by simp [World.cell?, Xv1.out]
    have k4 : v1.cell? ⟨w.heap.size, 4, none⟩ = some (.slice y1 cs.length c1) := by simp [World.cell?, Xv1.out]
    have k5 : v1.cell? ⟨w.heap.size, 5, none⟩ = some (.slice y2 bs.length c2) := by simp [World.cell?, Xv1.out]
    have k6 : v1.cell? ⟨w.heap.size, 6, none⟩ = some (.int .i64 bd) := by simp [World.cell?, Xv1.out]
    by_cases q2 : 0 ≤ iv
    · skip
      cases r1
      · skip
        go_wp2_with fail
        refine (H1.out _).mono ?_
        rintro e v2 ⟨rfl, hb⟩
        have Bv2 : Hid (Below w.heap.size w v2) := bl_tr Bv1.out hb
        have Xv2 : Hid (v2.heap[w.heap.size]? = some (.cells #[.string nm, .int .i64 iv, .int .i64 sg, .int .i64 pr, .slice y1 cs.length c1, .slice y2 bs.length c2, .int .i64 bd] 61 (0, 0))) := (hb.block _ (blk_in Xv1.out)).trans Xv1.out
        clear k0 k1 k2 k3 k4 k5 k6 hb
        have k0 : v2.cell? ⟨w.heap.size, 0, none⟩ = some (.string nm) := by simp [World.cell?, Xv2.out]
        have k1 : v2.cell? ⟨w.heap.size, 1, none⟩ = some (.int .i64 iv) := by simp [World.cell?, Xv2.out]
        have k2 : v2.cell? ⟨w.heap.size, 2, none⟩ = some (.int .i64 sg) := by simp [World.cell?, Xv2.out]
        have k3 : v2.cell? ⟨w.heap.size, 3, none⟩ = some (.int .i64 pr) := by simp [World.cell?, Xv2.out]
        have k4 : v2.cell? ⟨w.heap.size, 4, none⟩ = some (.slice y1 cs.length c1) := by simp [World.cell?, Xv2.out]
        have k5 : v2.cell? ⟨w.heap.size, 5, none⟩ = some (.slice y2 bs.length c2) := by simp [World.cell?, Xv2.out]
        have k6 : v2.cell? ⟨w.heap.size, 6, none⟩ = some (.int .i64 bd) := by simp [World.cell?, Xv2.out]
        go_wp2
        go_ret
        exact ⟨by simp [q2], Bv2.out⟩
      · skip
        go_wp2_with fail
        refine (H1.out _).mono ?_
        rintro e v2 ⟨rfl, hb⟩
        have Bv2 : Hid (Below w.heap.size w v2) := bl_tr Bv1.out hb
        have Xv2 : Hid (v2.heap[w.heap.size]? = some (.cells #[.string nm, .int .i64 iv, .int .i64 sg, .int .i64 pr, .slice y1 cs.length c1, .slice y2 bs.length c2, .int .i64 bd] 61 (0, 0))) := (hb.block _ (blk_in Xv1.out)).trans Xv1.out
        clear k0 k1 k2 k3 k4 k5 k6 hb
        have k0 : v2.cell? ⟨w.heap.size, 0, none⟩ = some (.string nm) := by simp [World.cell?, Xv2.out]
        have k1 : v2.cell? ⟨w.heap.size, 1, none⟩ = some (.int .i64 iv) := by simp [World.cell?, Xv2.out]
        have k2 : v2.cell? ⟨w.heap.size, 2, none⟩ = some (.int .i64 sg) := by simp [World.cell?, Xv2.out]
        have k3 : v2.cell? ⟨w.heap.size, 3, none⟩ = some (.int .i64 pr) := by simp [World.cell?, Xv2.out]
        have k4 : v2.cell? ⟨w.heap.size, 4, none⟩ = some (.slice y1 cs.length c1) := by simp [World.cell?, Xv2.out]
        have k5 : v2.cell? ⟨w.heap.size, 5, none⟩ = some (.slice y2 bs.length c2) := by simp [World.cell?, Xv2.out]
        have k6 : v2.cell? ⟨w.heap.size, 6, none⟩ = some (.int .i64 bd) := by simp [World.cell?, Xv2.out]
        go_wp2_with fail
        refine (H2.out _).mono ?_
        rintro e v3 ⟨rfl, hb⟩
        have Bv3 : Hid (Below w.heap.size w v3) := bl_tr Bv2.out hb
        have Xv3 : Hid (v3.heap[w.heap.size]? = some (.cells #[.string nm, .int .i64 iv, .int .i64 sg, .int .i64 pr, .slice y1 cs.length c1, .slice y2 bs.length c2, .int .i64 bd] 61 (0, 0))) := (hb.block _ (blk_in Xv2.out)).trans Xv2.out
        clear k0 k1 k2 k3 k4 k5 k6 hb
        have k0 : v3.cell? ⟨w.heap.size, 0, none⟩ = some (.string nm) := by simp [World.cell?, Xv3.out]
        have k1 : v3.cell? ⟨w.heap.size, 1, none⟩ = some (.int .i64 iv) := by simp [World.cell?, Xv3.out]
        have k2 : v3.cell? ⟨w.heap.size, 2, none⟩ = some (.int .i64 sg) := by simp [World.cell?, Xv3.out]
        have k3 : v3.cell? ⟨w.heap.size, 3, none⟩ = some (.int .i64 pr) := by simp [World.cell?, Xv3.out]
        have k4 : v3.cell? ⟨w.heap.size, 4, none⟩ = some (.slice y1 cs.length c1) := by simp [World.cell?, Xv3.out]
        have k5 : v3.cell? ⟨w.heap.size, 5, none⟩ = some (.slice y2 bs.length c2) := by simp [World.cell?, Xv3.out]
        have k6 : v3.cell? ⟨w.heap.size, 6, none⟩ = some (.int .i64 bd) := by simp [World.cell?, Xv3.out]
        go_wp2
        go_ret
        exact ⟨by simp [q2], Bv3.out⟩
    · skip
      go_wp2
      go_ret
      exact ⟨by rw [decide_eq_false (show ¬ 0 ≤ iv by omega)]; rfl, Bv1.out⟩
  · have n1 : (sg == -1) = false := by simp [q1]
    have n1b : (sg != -1) = true := by simp [q1]
    generalize hr0 : inB 0 ((m.cs.length : Int) - 1) sg = r0 at *
    cases r0
    · rw [G0.out q1 rfl, Bool.false_and, Bool.false_and, Bool.false_and]
      clear q1 hr0 G0 G1
      go_enter Tryz.func39, Tryz.ntmps39
      go_wp2_with fail
      rw [← eW]
      clear eW
      have d0 : ∀ y : Sub AW, y.w.cell? ⟨w.heap.size, 0, none⟩ = some (.string nm) := fun y => (y.h.cell (p := ⟨w.heap.size, 0, none⟩) (blk_in AX.out)).trans (by simp [World.cell?, AX.out])
      have d1 : ∀ y : Sub AW, y.w.cell? ⟨w.heap.size, 1, none⟩ = some (.int .i64 iv) := fun y => (y.h.cell (p := ⟨w.heap.size, 1, none⟩) (blk_in AX.out)).trans (by simp [World.cell?, AX.out])
      have d2 : ∀ y : Sub AW, y.w.cell? ⟨w.heap.size, 2, none⟩ = some (.int .i64 sg) := fun y => (y.h.cell (p := ⟨w.heap.size, 2, none⟩) (blk_in AX.out)).trans (by simp [World.cell?, AX.out])
      have d3 : ∀ y : Sub AW, y.w.cell? ⟨w.heap.size, 3, none⟩ = some (.int .i64 pr) := fun y => (y.h.cell (p := ⟨w.heap.size, 3, none⟩) (blk_in AX.out)).trans (by simp [World.cell?, AX.out])
      have d4 : ∀ y : Sub AW, y.w.cell? ⟨w.heap.size, 4, none⟩ = some (.slice y1 cs.length c1) := fun y => (y.h.cell (p := ⟨w.heap.size, 4, none⟩) (blk_in AX.out)).trans (by simp [World.cell?, AX.out])
      have d5 : ∀ y : Sub AW, y.w.cell? ⟨w.heap.size, 5, none⟩ = some (.slice y2 bs.length c2) := fun y => (y.h.cell (p := ⟨w.heap.size, 5, none⟩) (blk_in AX.out)).trans (by simp [World.cell?, AX.out])
      have d6 : ∀ y : Sub AW, y.w.cell? ⟨w.heap.size, 6, none⟩ = some (.int .i64 bd) := fun y => (y.h.cell (p := ⟨w.heap.size, 6, none⟩) (blk_in AX.out)).trans (by simp [World.cell?, AX.out])
      have HBq : Hid (∀ y : Sub AW, _) := fun y => HB.out y.w
      have H0q : Hid (∀ y : Sub AW, _) := fun y => H0.out y.w
      refine wp_region_sub2 (by kernel_rfl) (by kernel_rfl) ?_
      intro cx
      clear cx
      repeat (first | go_big_quiet_skip | (go_big_quiet_want; go_big_quiet_op; first | go_big_quiet_on | (refine ⟨_, fun _ => rfl, ?_⟩; go_big_quiet_on) | go_big_quiet_call (first | (go_at_call 68; exact calls_sub (HBq.out _)) | (go_at_call 63; exact calls_sub (H0q.out _)))))
      refine wpQuiet_nil ?_
      rintro _ ⟨y, rfl⟩
      obtain ⟨v1, v1h⟩ := y
      have Bv1 : Hid (Below w.heap.size w v1) := bl_tr AB.out v1h
      have Xv1 : Hid (v1.heap[w.heap.size]? = some (.cells #[.string nm, .int .i64 iv, .int .i64 sg, .int .i64 pr, .slice y1 cs.length c1, .slice y2 bs.length c2, .int .i64 bd] 61 (0, 0))) := (v1h.block _ (blk_in AX.out)).trans AX.out
      simp only
      clear d0 d1 d2 d3 d4 d5 d6 HBq H0q v1h
      go_wp2
      go_ret
      exact ⟨rfl, Bv1.out⟩
    have kk := G1.out rfl
    clear G0 G1 hr0
    obtain ⟨a, rfl⟩ := HA.out.some (by omega)
    obtain ⟨s, sv, se, sb, rfl, sk⟩ := HA.out.el sg.toNat (by omega)
    have e0 := sk.c0
    have E0 : Hid (∀ W, Below w.heap.size w W → W.cell? (a.add (sg.toNat * 11)) = some (.int .u8 s.kd)) := fun W h => (h.cell (by rw [add_block]; exact HS.out _ sb)).trans e0
    rw [sg_in kk.1 se]
    have kl : sg < m.cs.length := kk.2
    have k0 : 0 ≤ sg := kk.1
    clear se sb sk e0 kk q1
    by_cases q3 : s.kd = 1
    · have n3 : (s.kd == 1) = true := by simp [q3]
      have n3b : (s.kd != 1) = false := by simp [q3]
      rw [decide_eq_true q3, Bool.true_and]
      clear q3
      go_enter Tryz.func39, Tryz.ntmps39
      go_wp2_with fail
      rw [← eW]
      clear eW
      have d0 : ∀ y : Sub AW, y.w.cell? ⟨w.heap.size, 0, none⟩ = some (.string nm) := fun y => (y.h.cell (p := ⟨w.heap.size, 0, none⟩) (blk_in AX.out)).trans (by simp [World.cell?, AX.out])
      have d1 : ∀ y : Sub AW, y.w.cell? ⟨w.heap.size, 1, none⟩ = some (.int .i64 iv) := fun y => (y.h.cell (p := ⟨w.heap.size, 1, none⟩) (blk_in AX.out)).trans (by simp [World.cell?, AX.out])
      have d2 : ∀ y : Sub AW, y.w.cell? ⟨w.heap.size, 2, none⟩ = some (.int .i64 sg) := fun y => (y.h.cell (p := ⟨w.heap.size, 2, none⟩) (blk_in AX.out)).trans (by simp [World.cell?, AX.out])
      have d3 : ∀ y : Sub AW, y.w.cell? ⟨w.heap.size, 3, none⟩ = some (.int .i64 pr) := fun y => (y.h.cell (p := ⟨w.heap.size, 3, none⟩) (blk_in AX.out)).trans (by simp [World.cell?, AX.out])
      have d4 : ∀ y : Sub AW, y.w.cell? ⟨w.heap.size, 4, none⟩ = some (.slice y1 cs.length c1) := fun y => (y.h.cell (p := ⟨w.heap.size, 4, none⟩) (blk_in AX.out)).trans (by simp [World.cell?, AX.out])
      have d5 : ∀ y : Sub AW, y.w.cell? ⟨w.heap.size, 5, none⟩ = some (.slice y2 bs.length c2) := fun y => (y.h.cell (p := ⟨w.heap.size, 5, none⟩) (blk_in AX.out)).trans (by simp [World.cell?, AX.out])
      have d6 : ∀ y : Sub AW, y.w.cell? ⟨w.heap.size, 6, none⟩ = some (.int .i64 bd) := fun y => (y.h.cell (p := ⟨w.heap.size, 6, none⟩) (blk_in AX.out)).trans (by simp [World.cell?, AX.out])
      have f0 : ∀ y : Sub AW, y.w.cell? (a.add (sg.toNat * 11)) = some (.int .u8 s.kd) := fun y => E0.out y.w (bl_tr AB.out y.h)
      have HBq : Hid (∀ y : Sub AW, _) := fun y => HB.out y.w
      have H0q : Hid (∀ y : Sub AW, _) := fun y => H0.out y.w
      refine wp_region_sub2 (by kernel_rfl) (by kernel_rfl) ?_
      intro cx
      clear cx
      repeat (first | go_big_quiet_skip | (go_big_quiet_want; go_big_quiet_op; first | go_big_quiet_on | (refine ⟨_, fun _ => rfl, ?_⟩; go_big_quiet_on) | go_big_quiet_call (first | (go_at_call 68; exact calls_sub (HBq.out _)) | (go_at_call 63; exact calls_sub (H0q.out _)))))
      refine wpQuiet_nil ?_
      rintro _ ⟨y, rfl⟩
      obtain ⟨v1, v1h⟩ := y
      have Bv1 : Hid (Below w.heap.size w v1) := bl_tr AB.out v1h
      have Xv1 : Hid (v1.heap[w.heap.size]? = some (.cells #[.string nm, .int .i64 iv, .int .i64 sg, .int .i64 pr, .slice y1 cs.length c1, .slice y2 bs.length c2, .int .i64 bd] 61 (0, 0))) := (v1h.block _ (blk_in AX.out)).trans AX.out
      simp only
      clear d0 d1 d2 d3 d4 d5 d6 HBq H0q f0 v1h
      have k0 : v1.cell? ⟨w.heap.size, 0, none⟩ = some (.string nm) := by simp [World.cell?, Xv1.out]
      have k1 : v1.cell? ⟨w.heap.size, 1, none⟩ = some (.int .i64 iv) := by simp [World.cell?, Xv1.out]
      have k2 : v1.cell? ⟨w.heap.size, 2, none⟩ = some (.int .i64 sg) := by simp [World.cell?, Xv1.out]
      have k3 : v1.cell? ⟨w.heap.size, 3, none⟩ = some (.int .i64 pr) := by simp [World.cell?, Xv1.out]
      have k4 : v1.cell? ⟨w.heap.size, 4, none⟩ = some (.slice y1 cs.length c1) := by simp [World.cell?, Xv1.out]
      have k5 : v1.cell? ⟨w.heap.size, 5, none⟩ = some (.slice y2 bs.length c2) := by simp [World.cell?, Xv1.out]
      have k6 : v1.cell? ⟨w.heap.size, 6, none⟩ = some (.int .i64 bd) := by simp [World.cell?, Xv1.out]
      by_cases q2 : 0 ≤ iv
      · skip
        cases r1
        · skip
          go_wp2_with fail
          refine (H1.out _).mono ?_
          rintro e v2 ⟨rfl, hb⟩
          have Bv2 : Hid (Below w.heap.size w v2) := bl_tr Bv1.out hb
          have Xv2 : Hid (v2.heap[w.heap.size]? = some (.cells #[.string nm, .int .i64 iv, .int .i64 sg, .int .i64 pr, .slice y1 cs.length c1, .slice y2 bs.length c2, .int .i64 bd] 61 (0, 0))) := (hb.block _ (blk_in Xv1.out)).trans Xv1.out
          clear k0 k1 k2 k3 k4 k5 k6 hb
          have k0 : v2.cell? ⟨w.heap.size, 0, none⟩ = some (.string nm) := by simp [World.cell?, Xv2.out]
          have k1 : v2.cell? ⟨w.heap.size, 1, none⟩ = some (.int .i64 iv) := by simp [World.cell?, Xv2.out]
          have k2 : v2.cell? ⟨w.heap.size, 2, none⟩ = some (.int .i64 sg) := by simp [World.cell?, Xv2.out]
          have k3 : v2.cell? ⟨w.heap.size, 3, none⟩ = some (.int .i64 pr) := by simp [World.cell?, Xv2.out]
          have k4 : v2.cell? ⟨w.heap.size, 4, none⟩ = some (.slice y1 cs.length c1) := by simp [World.cell?, Xv2.out]
          have k5 : v2.cell? ⟨w.heap.size, 5, none⟩ = some (.slice y2 bs.length c2) := by simp [World.cell?, Xv2.out]
          have k6 : v2.cell? ⟨w.heap.size, 6, none⟩ = some (.int .i64 bd) := by simp [World.cell?, Xv2.out]
          go_wp2
          go_ret
          exact ⟨by simp [q2], Bv2.out⟩
        · skip
          go_wp2_with fail
          refine (H1.out _).mono ?_
          rintro e v2 ⟨rfl, hb⟩
          have Bv2 : Hid (Below w.heap.size w v2) := bl_tr Bv1.out hb
          have Xv2 : Hid (v2.heap[w.heap.size]? = some (.cells #[.string nm, .int .i64 iv, .int .i64 sg, .int .i64 pr, .slice y1 cs.length c1, .slice y2 bs.length c2, .int .i64 bd] 61 (0, 0))) := (hb.block _ (blk_in Xv1.out)).trans Xv1.out
          clear k0 k1 k2 k3 k4 k5 k6 hb
          have k0 : v2.cell? ⟨w.heap.size, 0, none⟩ = some (.string nm) := by simp [World.cell?, Xv2.out]
          have k1 : v2.cell? ⟨w.heap.size, 1, none⟩ = some (.int .i64 iv) := by simp [World.cell?, Xv2.out]
          have k2 : v2.cell? ⟨w.heap.size, 2, none⟩ = some (.int .i64 sg) := by simp [World.cell?, Xv2.out]
          have k3 : v2.cell? ⟨w.heap.size, 3, none⟩ = some (.int .i64 pr) := by simp [World.cell?, Xv2.out]
          have k4 : v2.cell? ⟨w.heap.size, 4, none⟩ = some (.slice y1 cs.length c1) := by simp [World.cell?, Xv2.out]
          have k5 : v2.cell? ⟨w.heap.size, 5, none⟩ = some (.slice y2 bs.length c2) := by simp [World.cell?, Xv2.out]
          have k6 : v2.cell? ⟨w.heap.size, 6, none⟩ = some (.int .i64 bd) := by simp [World.cell?, Xv2.out]
          go_wp2_with fail
          refine (H2.out _).mono ?_
          rintro e v3 ⟨rfl, hb⟩
          have Bv3 : Hid (Below w.heap.size w v3) := bl_tr Bv2.out hb
          have Xv3 : Hid (v3.heap[w.heap.size]? = some (.cells #[.string nm, .int .i64 iv, .int .i64 sg, .int .i64 pr, .slice y1 cs.length c1, .slice y2 bs.length c2, .int .i64 bd] 61 (0, 0))) := (hb.block _ (blk_in Xv2.out)).trans Xv2.out
          clear k0 k1 k2 k3 k4 k5 k6 hb
          have k0 : v3.cell? ⟨w.heap.size, 0, none⟩ = some (.string nm) := by simp [World.cell?, Xv3.out]
          have k1 : v3.cell? ⟨w.heap.size, 1, none⟩ = some (.int .i64 iv) := by simp [World.cell?, Xv3.out]
          have k2 : v3.cell? ⟨w.heap.size, 2, none⟩ = some (.int .i64 sg) := by simp [World.cell?, Xv3.out]
          have k3 : v3.cell? ⟨w.heap.size, 3, none⟩ = some (.int .i64 pr) := by simp [World.cell?, Xv3.out]
          have k4 : v3.cell? ⟨w.heap.size, 4, none⟩ = some (.slice y1 cs.length c1) := by simp [World.cell?, Xv3.out]
          have k5 : v3.cell? ⟨w.heap.size, 5, none⟩ = some (.slice y2 bs.length c2) := by simp [World.cell?, Xv3.out]
          have k6 : v3.cell? ⟨w.heap.size, 6, none⟩ = some (.int .i64 bd) := by simp [World.cell?, Xv3.out]
          go_wp2
          go_ret
          exact ⟨by simp [q2], Bv3.out⟩
      · skip
        go_wp2
        go_ret
        exact ⟨by rw [decide_eq_false (show ¬ 0 ≤ iv by omega)]; rfl, Bv1.out⟩
    · have n3 : (s.kd == 1) = false := by simp [q3]
      have n3b : (s.kd != 1) = true := by simp [q3]
      rw [decide_eq_false q3, Bool.false_and, Bool.false_and, Bool.false_and]
      clear q3
      go_enter Tryz.func39, Tryz.ntmps39
      go_wp2_with fail
      rw [← eW]
      clear eW
      have d0 : ∀ y : Sub AW, y.w.cell? ⟨w.heap.size, 0, none⟩ = some (.string nm) := fun y => (y.h.cell (p := ⟨w.heap.size, 0, none⟩) (blk_in AX.out)).trans (by simp [World.cell?, AX.out])
      have d1 : ∀ y : Sub AW, y.w.cell? ⟨w.heap.size, 1, none⟩ = some (.int .i64 iv) := fun y => (y.h.cell (p := ⟨w.heap.size, 1, none⟩) (blk_in AX.out)).trans (by simp [World.cell?, AX.out])
      have d2 : ∀ y : Sub AW, y.w.cell? ⟨w.heap.size, 2, none⟩ = some (.int .i64 sg) := fun y => (y.h.cell (p := ⟨w.heap.size, 2, none⟩) (blk_in AX.out)).trans (by simp [World.cell?, AX.out])
      have d3 : ∀ y : Sub AW, y.w.cell? ⟨w.heap.size, 3, none⟩ = some (.int .i64 pr) := fun y => (y.h.cell (p := ⟨w.heap.size, 3, none⟩) (blk_in AX.out)).trans (by simp [World.cell?, AX.out])
      have d4 : ∀ y : Sub AW, y.w.cell? ⟨w.heap.size, 4, none⟩ = some (.slice y1 cs.length c1) := fun y => (y.h.cell (p := ⟨w.heap.size, 4, none⟩) (blk_in AX.out)).trans (by simp [World.cell?, AX.out])
      have d5 : ∀ y : Sub AW, y.w.cell? ⟨w.heap.size, 5, none⟩ = some (.slice y2 bs.length c2) := fun y => (y.h.cell (p := ⟨w.heap.size, 5, none⟩) (blk_in AX.out)).trans (by simp [World.cell?, AX.out])
      have d6 : ∀ y : Sub AW, y.w.cell? ⟨w.heap.size, 6, none⟩ = some (.int .i64 bd) := fun y => (y.h.cell (p := ⟨w.heap.size, 6, none⟩) (blk_in AX.out)).trans (by simp [World.cell?, AX.out])
      have f0 : ∀ y : Sub AW, y.w.cell? (a.add (sg.toNat * 11)) = some (.int .u8 s.kd) := fun y => E0.out y.w (bl_tr AB.out y.h)
      have HBq : Hid (∀ y : Sub AW, _) := fun y => HB.out y.w
      have H0q : Hid (∀ y : Sub AW, _) := fun y => H0.out y.w
      refine wp_region_sub2 (by kernel_rfl) (by kernel_rfl) ?_
      intro cx
      clear cx
      repeat (first | go_big_quiet_skip | (go_big_quiet_want; go_big_quiet_op; first | go_big_quiet_on | (refine ⟨_, fun _ => rfl, ?_⟩; go_big_quiet_on) | go_big_quiet_call (first | (go_at_call 68; exact calls_sub (HBq.out _)) | (go_at_call 63; exact calls_sub (H0q.out _)))))
      refine wpQuiet_nil ?_
      rintro _ ⟨y, rfl⟩
      obtain ⟨v1, v1h⟩ := y
      have Bv1 : Hid (Below w.heap.size w v1) := bl_tr AB.out v1h
      have Xv1 : Hid (v1.heap[w.heap.size]? = some (.cells #[.string nm, .int .i64 iv, .int .i64 sg, .int .i64 pr, .slice y1 cs.length c1, .slice y2 bs.length c2, .int .i64 bd] 61 (0, 0))) := (v1h.block _ (blk_in AX.out)).trans AX.out
      simp only
      clear d0 d1 d2 d3 d4 d5 d6 HBq H0q f0 v1h
      go_wp2
      go_ret
      exact ⟨rfl, Bv1.out⟩
end Go.Proofs.YtkickdmomompjaaGreat
namespace Go.Proofs.YtkickdmomompjaaGreat
set_option linter.unusedVariables false
open Go.RowKit
theorem rn_bad {m : ImR} {j : JbR} {k : Nat} (hk : k < j.cs.length) (h : runB m (j.cs.getD k 0) (j.bs.getD k 0) = false) : rnB m j = false := by
  unfold rnB
  rw [Bool.and_eq_false_iff]
  right
  rw [List.all_eq_false]
  exact ⟨k, List.mem_range.2 hk, by rw [h]; simp⟩
theorem rn_all {m : ImR} {j : JbR} (h1 : j.cs.length = j.bs.length) (h2 : j.cs.length ≤ 32) (h : ∀ k, k < j.cs.length → runB m (j.cs.getD k 0) (j.bs.getD k 0) = true) : rnB m j = true := by
  unfold rnB
  rw [decide_eq_true h1, decide_eq_true h2, Bool.true_and, Bool.true_and, List.all_eq_true]
  exact fun k hk => h k (List.mem_range.1 hk)
theorem run_in {m : ImR} {z : Nat} {f : FlR} (b : Int) (h : m.fs[z]? = some f) : runB m z b = (decide (f.wh = 3) && ftB b f.ce m.cs.length) := by
  unfold runB
  have := (List.getElem?_eq_some_iff.1 h).1
  rw [decide_eq_true (show (0 : Int) ≤ z by omega), decide_eq_true (show (z : Int) < m.fs.length by omega), Int.toNat_natCast, h]
  rfl
theorem run_out {m : ImR} {z : Int} (b : Int) (h : inB 0 ((m.fs.length : Int) - 1) z = false) : runB m z b = false := by
  unfold inB at h
  unfold runB
  simp only [Bool.and_eq_false_iff, decide_eq_false_iff_not] at h
  rcases h with q | q
  · rw [decide_eq_false q]; rfl
  · rw [decide_eq_false (show ¬ z < (m.fs.length : Int) by omega), Bool.and_false]; rfl
set_option maxRecDepth 20000 in
set_option maxHeartbeats 8000000 in
theorem mayRun_of (m : ImR) (j : JbR) (y1 y2 : Option Addr) (c1 c2 : Nat) (x1 x2 x3 : Option Addr) (p1 p2 p3 : Nat) (w : World) {S : Nat → Prop} (hS : ∀ b, S b → b < w.heap.size) (hj : JbQ S w j y1 y2) (ha : RwF 8 (FlP S w) S w x2 m.fs)
    (hn : m.cs.length ≤ 1048576) (hm : m.fs.length ≤ 1048576) (hc : ∀ f ∈ m.fs, 0 ≤ f.ce ∧ f.ce ≤ 4096) :
    Calls Tryz.prog 40 #[JbV j y1 y2 c1 c2, ImB m x1 x2 x3 p1 p2 p3] w fun e w' => e = .returned (.bool (rnB m j)) ∧ Below w.heap.size w w' := by
  have HA : Hid (RwF 8 (FlP S w) S w x2 m.fs) := ha
  have HJ : Hid (JbQ S w j y1 y2) := hj
  have HS : Hid (∀ b, S b → b < w.heap.size) := hS
  have HC : Hid (∀ f ∈ m.fs, 0 ≤ f.ce ∧ f.ce ≤ 4096) := hc
  have HN : Hid (m.cs.length ≤ 1048576) := hn
  have HM : Hid (m.fs.length ≤ 1048576) := hm
  clear ha hS hj hc hn hm
  by_cases q1 : j.cs.length = j.bs.length
  case neg =>
    have n1 : ((j.cs.length : Int) == (j.bs.length : Int)) = false := by rw [beq_eq_false_iff_ne]; omega
    have n2 : ((j.cs.length : Int) != (j.bs.length : Int)) = true := by simp only [bne, n1]; rfl
    have ev : rnB m j = false := by unfold rnB; rw [decide_eq_false q1]; rfl
    rw [ev]
    clear ev q1
    go_enter Tryz.func40, Tryz.ntmps40
    go_wp2
    go_ret
    exact ⟨rfl, by go_grown⟩
  have n1 : ((j.cs.length : Int) == (j.bs.length : Int)) = true := by rw [beq_iff_eq]; omega
  have n2 : ((j.cs.length : Int) != (j.bs.length : Int)) = false := by simp only [bne, n1]; rfl
  have Q1 : Hid (j.cs.length = j.bs.length) := q1
  clear q1
  by_cases q2 : j.cs.length ≤ 32
  case neg =>
    have n3 : (32 : Int) < (j.cs.length : Int) := by omega
    have ev : rnB m j = false := by unfold rnB; rw [decide_eq_false q2, Bool.and_false]; rfl
    rw [ev]
    clear ev q2
    go_enter Tryz.func40, Tryz.ntmps40
    go_wp2
    go_ret
    exact ⟨rfl, by go_grown⟩
  have n3 : ¬ (32 : Int) < (j.cs.length : Int) := by omega
  have Q2 : Hid (j.cs.length ≤ 32) := q2
  clear q2
  generalize hv : rnB m j = VV
  have HV : Hid (rnB m j = VV) := hv
  clear hv
  obtain ⟨AW, eW⟩ : ∃ AW, AW = (w.alloc (.cells #[.string j.nm, .int .i64 j.iv, .int .i64 j.sg, .int .i64 j.pr, .slice y1 j.cs.length c1, .slice y2 j.bs.length c2, .int .i64 j.bd] 61 (0, 0))).alloc (.cells #[.string m.nm, .slice x1 m.cs.length p1, .slice x2 m.fs.length p2, .slice x3 m.js.length p3] 26 (0, 0)) := ⟨_, rfl⟩
  have tw := tv_at w (.cells #[.string j.nm, .int .i64 j.iv, .int .i64 j.sg, .int .i64 j.pr, .slice y1 j.cs.length c1, .slice y2 j.bs.length c2, .int .i64 j.bd] 61 (0, 0)) (.cells #[.string m.nm, .slice x1 m.cs.length p1, .slice x2 m.fs.length p2, .slice x3 m.js.length p3] 26 (0, 0))
  have AX : Hid (AW.heap[w.heap.size]? = some (.cells #[.string j.nm, .int .i64 j.iv, .int .i64 j.sg, .int .i64 j.pr, .slice y1 j.cs.length c1, .slice y2 j.bs.length c2, .int .i64 j.bd] 61 (0, 0))) := by rw [eW]; exact tw.1
  have AY : Hid (AW.heap[w.heap.size + 1]? = some (.cells #[.string m.nm, .slice x1 m.cs.length p1, .slice x2 m.fs.length p2, .slice x3 m.js.length p3] 26 (0, 0))) := by rw [eW]; exact tw.2
  have AB : Hid (Below w.heap.size w AW) := by rw [eW]; exact ((Below.refl _ _).alloc (Nat.le_refl _) _).alloc (by simp) _
  clear tw
  go_enter Tryz.func40, Tryz.ntmps40
  go_wp2_with fail
  rw [← eW]
  clear eW n1 n2 n3
  go_loopw [24] (fun i wr => ∃ k : Nat, k ≤ j.cs.length ∧ i = .int .i64 k ∧ Below w.heap.size w wr ∧ wr.heap[w.heap.size]? = some (.cells #[.string j.nm, .int .i64 j.iv, .int .i64 j.sg, .int .i64 j.pr, .slice y1 j.cs.length c1, .slice y2 j.bs.length c2, .int .i64 j.bd] 61 (0, 0)) ∧ wr.heap[w.heap.size + 1]? = some (.cells #[.string m.nm, .slice x1 m.cs.length p1, .slice x2 m.fs.length p2, .slice x3 m.js.length p3] 26 (0, 0)) ∧ ∀ i, i < k → runB m (j.cs.getD i 0) (j.bs.getD i 0) = true) (fun i _ => j.cs.length - (intOf i).toNat)
  case atStart => exact ⟨0, Nat.zero_le _, rfl, AB.out, AX.out, AY.out, fun i hi => absurd hi (Nat.not_lt_zero _)⟩
  case round =>
    obtain ⟨k, hk, rfl, hbw, hx, hy, hall⟩ := hrel
    have HW : Hid (Below w.heap.size w wr) := hbw
    have HX : Hid (wr.heap[w.heap.size]? = some (.cells #[.string j.nm, .int .i64 j.iv, .int .i64 j.sg, .int .i64 j.pr, .slice y1 j.cs.length c1, .slice y2 j.bs.length c2, .int .i64 j.bd] 61 (0, 0))) := hx
    have HY : Hid (wr.heap[w.heap.size + 1]? = some (.cells #[.string m.nm, .slice x1 m.cs.length p1, .slice x2 m.fs.length p2, .slice x3 m.js.length p3] 26 (0, 0))) := hy
    have AL : Hid (∀ i, i < k → runB m (j.cs.getD i 0) (j.bs.getD i 0) = true) := hall
    clear hall AX AB AY
    by_cases hlt : k < j.cs.length
    · obtain ⟨a, rfl⟩ := HJ.out.1.some (by omega)
      obtain ⟨b, rfl⟩ := HJ.out.2.some (by have := Q1.out; omega)
      obtain ⟨z, zv, ze, zs, rfl, zk⟩ := HJ.out.1.el k hlt
      obtain ⟨u, uv, ue, us, rfl, uk⟩ := HJ.out.2.el k (by have := Q1.out; omega)
      have gz : j.cs.getD k 0 = z := by simp [List.getD, ze]
      have gu : j.bs.getD k 0 = u := by simp [List.getD, ue]
      have z0 := zk.c0
      have u0 := uk.c0
      rw [Nat.mul_one] at z0 u0
      have LT : Hid (k < j.cs.length) := hlt
      have kl : (k : Int) < j.cs.length := by omega
      have klb : (k : Int) < j.bs.length := by have := Q1.out; omega
      have CZ : Hid (∀ V, Below w.heap.size w V → V.cell? (a.add k) = some (.int .i64 z) ∧ V.cell? (b.add k) = some (.int .i64 u)) := fun V h => ⟨(h.cell (by rw [add_block]; exact HS.out _ zs)).trans z0, (h.cell (by rw [add_block]; exact HS.out _ us)).trans u0⟩
      have BAD : Hid (runB m z u = false → VV = false) := fun h => HV.out.symm.trans (rn_bad LT.out (by rw [gz, gu]; exact h))
      have NXT : Hid (runB m z u = true → ∀ i, i < k + 1 → runB m (j.cs.getD i 0) (j.bs.getD i 0) = true) := fun h i hi => by
        rcases Nat.lt_succ_iff_lt_or_eq.1 hi with q | rfl
        · exact AL.out i q
        · rw [gz, gu]; exact h
      have CB : Hid (∀ V, Below wr.heap.size wr V → V.heap[w.heap.size]? = some (.cells #[.string j.nm, .int .i64 j.iv, .int .i64 j.sg, .int .i64 j.pr, .slice (some a) j.cs.length c1, .slice (some b) j.bs.length c2, .int .i64 j.bd] 61 (0, 0)) ∧ V.heap[w.heap.size + 1]? = some (.cells #[.string m.nm, .slice x1 m.cs.length p1, .slice x2 m.fs.length p2, .slice x3 m.js.length p3] 26 (0, 0))) := fun V h => ⟨(h.block _ (blk_in HX.out)).trans HX.out, (h.block _ (blk_in HY.out)).trans HY.out⟩
      have BW : Hid (∀ V, Below wr.heap.size wr V → Below w.heap.size w V) := fun V h => HW.out.trans (h.mono HW.out.size)
      clear hbw hx hy hlt ze zs zk ue us uk gz gu z0 u0
      have z0 := (CZ.out wr HW.out).1
      have m2 : wr.cell? ⟨w.heap.size + 1, 2, none⟩ = some (.slice x2 m.fs.length p2) := by simp [World.cell?, HY.out]
      have HB : Hid (∀ W, Calls Tryz.prog 68 #[.int .i64 m.fs.length] W fun e w' => e = .returned (.agg #[.int .i64 0, .int .i64 ((m.fs.length : Int) - 1)]) ∧ Below W.heap.size W w') := fun W => below_of _ (by have := HM.out; omega) W
      have H0 : Hid (∀ W, Calls Tryz.prog 63 #[.agg #[.int .i64 0, .int .i64 ((m.fs.length : Int) - 1)], .int .i64 z] W fun e w' => e = .returned (.bool (inB 0 ((m.fs.length : Int) - 1) z)) ∧ Below W.heap.size W w') := fun W => has_of _ _ _ W
      have G0 : Hid (inB 0 ((m.fs.length : Int) - 1) z = false → runB m z u = false) := run_out u
      have G1 : Hid (inB 0 ((m.fs.length : Int) - 1) z = true → 0 ≤ z ∧ z < m.fs.length) := fun h => by have := inB_t h; omega
      generalize inB 0 ((m.fs.length : Int) - 1) z = r0 at *
      go_wp2_with fail
      refine (HB.out _).mono ?_
      rintro e v1 ⟨rfl, hb1⟩
      have V1 : Hid (Below wr.heap.size wr v1) := hb1
      clear hb1 z0 m2
      go_wp2_with fail
      refine (H0.out _).mono ?_
      rintro e v2 ⟨rfl, hb2⟩
      have V2 : Hid (Below wr.heap.size wr v2) := V1.out.trans (hb2.mono V1.out.size)
      clear hb2 V1
      cases r0
      · have ev : VV = false := BAD.out (G0.out rfl)
        subst ev
        go_wp2
        go_ret
        exact ⟨rfl, BW.out _ V2.out⟩
      have zz := G1.out rfl
      obtain ⟨y, rfl⟩ : ∃ y : Nat, z = y := ⟨z.toNat, by omega⟩
      clear G0 G1 HB H0
      obtain ⟨d, rfl⟩ := HA.out.some (by omega)
      obtain ⟨f, fv, fe, _, ⟨sx, sc, sy, sd, rfl, sq⟩, sk⟩ := (HA.out.frK keptF (w' := v2) (fun q hq => (BW.out _ V2.out).cell (HS.out _ hq))).el y (by omega)
      have e0 := sk.c0
      have e1 := sk.cp 0 _ rfl
      have e2 := sk.cp 1 _ rfl
      have e3 := sk.cp 2 _ rfl
      have e4 := sk.cp 3 _ rfl
      have e5 := sk.cp 4 _ rfl
      have e6 := sk.cp 5 _ rfl
      have e7 := sk.cp 6 _ rfl
      have RB : Hid (runB m y u = (decide (f.wh = 3) && ftB u f.ce m.cs.length)) := run_in u fe
      have F1 : Hid (∀ W, Calls Tryz.prog 64 #[.int .i64 u, .int .i64 f.ce, .int .i64 m.cs.length] W fun e w' => e = .returned (.bool (ftB u f.ce m.cs.length)) ∧ w' = W) := fun W => fits_of u f.ce m.cs.length W (HC.out f (List.mem_of_getElem? fe)) (by have := HN.out; omega)
      have yl : (y : Int) < m.fs.length := zz.2
      clear sk sq fe zz
      have za := block_lt_of_cell e0
      obtain ⟨cb1, cb2⟩ := CB.out v2 V2.out
      have m2 : v2.cell? ⟨w.heap.size + 1, 2, none⟩ = some (.slice (some d) m.fs.length p2) := by simp [World.cell?, cb2]
      obtain ⟨AR, eR⟩ : ∃ AR, AR = v2.alloc (.cells #[.string f.nm, .int .i64 f.wh, .int .i64 f.ce, .int .i64 f.ba, .int .i64 f.rg, .int .i64 f.sl, .slice sx f.os.length sc, .slice sy f.ls.length sd] 66 (0, 0)) := ⟨_, rfl⟩
      have RX : AR.heap[v2.heap.size]? = some (.cells #[.string f.nm, .int .i64 f.wh, .int .i64 f.ce, .int .i64 f.ba, .int .i64 f.rg, .int .i64 f.sl, .slice sx f.os.length sc, .slice sy f.ls.length sd] 66 (0, 0)) := by rw [eR]; exact heap_alloc_last _ _
      have VR : Hid (Below wr.heap.size wr AR) := by rw [eR]; exact V2.out.trans (((Below.refl _ _).alloc (Nat.le_refl _) _).mono V2.out.size)
      clear cb1 cb2
      go_upto_region 1 with fail
      rw [← eR]
      clear eR e0 e1 e2 e3 e4 e5 e6 e7 za m2
      obtain ⟨cb1, cb2⟩ := CB.out AR VR.out
      have m1 : ∀ y : Sub AR, y.w.cell? ⟨w.heap.size + 1, 1, none⟩ = some (.slice x1 m.cs.length p1) := fun y => (y.h.cell (p := ⟨w.heap.size + 1, 1, none⟩) (blk_in cb2)).trans (by simp [World.cell?, cb2])
      have j5 : ∀ y : Sub AR, y.w.cell? ⟨w.heap.size, 5, none⟩ = some (.slice (some b) j.bs.length c2) := fun y => (y.h.cell (p := ⟨w.heap.size, 5, none⟩) (blk_in cb1)).trans (by simp [World.cell?, cb1])
      have f1 : ∀ y : Sub AR, y.w.cell? ⟨v2.heap.size, 1, none⟩ = some (.int .i64 f.wh) := fun y => (y.h.cell (p := ⟨v2.heap.size, 1, none⟩) (blk_in RX)).trans (by simp [World.cell?, RX])
      have f2 : ∀ y : Sub AR, y.w.cell? ⟨v2.heap.size, 2, none⟩ = some (.int .i64 f.ce) := fun y => (y.h.cell (p := ⟨v2.heap.size, 2, none⟩) (blk_in RX)).trans (by simp [World.cell?, RX])
      have u0 : ∀ y : Sub AR, y.w.cell? (b.add k) = some (.int .i64 u) := fun y => (CZ.out y.w (BW.out _ (VR.out.trans (y.h.mono VR.out.size)))).2
      have F1q : Hid (∀ y : Sub AR, _) := fun y => F1.out y.w
      clear RX cb1 cb2
      have WIN : Hid (∀ y : Sub AR, Below wr.heap.size wr y.w) := fun y => VR.out.trans (y.h.mono VR.out.size)
      go_wp2_with fail
      by_cases q3 : f.wh = 3
      case neg =>
        have n3 : (f.wh == 3) = false := by simp [q3]
        have n4 : (f.wh != 3) = true := by simp [q3]
        have ev : VV = false := BAD.out (by rw [RB.out, decide_eq_false q3]; rfl)
        subst ev
        clear q3
        refine wp_region_sub2 (by kernel_rfl) (by kernel_rfl) ?_
        intro cx
        clear cx
        repeat (first | go_big_quiet_skip | (go_big_quiet_want; go_big_quiet_op; first | go_big_quiet_on | (refine ⟨_, fun _ => rfl, ?_⟩; go_big_quiet_on) | go_big_quiet_call (first | fail)))
        refine wpQuiet_nil ?_
        rintro _ ⟨y, rfl⟩
        clear m1 j5 f1 f2 u0 F1q
        go_wp2
        go_ret
        exact ⟨rfl, BW.out _ (WIN.out y)⟩
      have n3 : (f.wh == 3) = true := by simp [q3]
      have n4 : (f.wh != 3) = false := by simp [q3]
      rw [decide_eq_true q3, Bool.true_and] at RB
      clear q3
      generalize ftB u f.ce m.cs.length = r1 at *
      refine wp_region_sub2 (by kernel_rfl) (by kernel_rfl) ?_
      intro cx
      clear cx
      repeat (first | go_big_quiet_skip | (go_big_quiet_want; go_big_quiet_op; first | go_big_quiet_on | (refine ⟨_, fun _ => rfl, ?_⟩; go_big_quiet_on) | go_big_quiet_call (first | (go_at_call 64; exact calls_sub_same (F1q.out _)))))
      refine wpQuiet_nil ?_
      rintro _ ⟨y, rfl⟩
      clear m1 j5 f1 f2 u0 F1q
      cases r1
      · have ev : VV = false := BAD.out RB.out
        subst ev
        go_wp2
        go_ret
        exact ⟨rfl, BW.out _ (WIN.out y)⟩
      · have ew : wrap64 ((k : Int) + 1) = (k : Int) + 1 := by have := Q2.out; have := LT.out; unfold wrap64; omega
        go_wp2
        rw [ew]
        exact ⟨⟨k + 1, Nat.succ_le_of_lt LT.out, rfl, BW.out _ (WIN.out y), (CB.out _ (WIN.out y)).1, (CB.out _ (WIN.out y)).2, NXT.out RB.out⟩, msr LT.out⟩
    · have kl : ¬ (k : Int) < j.cs.length := by omega
      have ev : VV = true := HV.out.symm.trans (rn_all Q1.out Q2.out (fun i hi => AL.out i (by omega)))
      subst ev
      clear hbw hlt hx hy
      go_wp2
      go_ret
      exact ⟨rfl, HW.out⟩
end Go.Proofs.YtkickdmomompjaaGreat
