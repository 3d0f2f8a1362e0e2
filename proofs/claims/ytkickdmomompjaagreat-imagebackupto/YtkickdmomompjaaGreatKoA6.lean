/- image: the first cell that may not be; no statement of the seat is proved here. -/
import Derived.Test.YtkickdmomompjaaGreatCkCK
import Derived.Maps.OwnSet
import Derived.Maps.Views
namespace Go.Proofs.YtkickdmomompjaaGreat
set_option linter.unusedVariables false
open Go.RowKit
theorem eqNw (k b : Int) (s : ByteArray) (w : World) : (binOp .eql 54 (.agg #[.int .u8 k, .int .u64 b, .string s]) (.agg #[.int .u8 20, .int .u64 0, .string ⟨#[]⟩])).run Tryz.prog w = .ok (.bool (nwB k b s)) w := by
  unfold nwB emB
  by_cases h1 : k = 20
  · subst h1
    by_cases h2 : b = 0
    · subst h2
      by_cases h3 : s.toList = []
      · simp [go_sem, h3]
      · simp [go_sem, h3]
    · simp [go_sem, h2]
  · simp [go_sem, h1]
theorem blk_in {c : World} {g : Nat} {o : Obj} (h : c.heap[g]? = some o) : g < c.heap.size := (Array.getElem?_eq_some_iff.1 h).1
set_option maxHeartbeats 4000000 in
theorem mayBegin_of (c : CeR) (h : CeOk c) (w : World) : Calls Tryz.prog 61 #[CeV c] w fun e w' => e = .returned (.bool (bgB c)) ∧ Below w.heap.size w w' := by
  obtain ⟨h1, h2, h3, h4, h5, h6, h7, h8, h9⟩ := h
  have g2 := wf_i64 h2
  have g3 := wf_i64 h3
  have g5 := wf_u8 h5
  have g6 := wf_u64 h6
  have g7 := sh_max h7
  clear h1 h2 h3 h4 h5 h6 h7 h8 h9
  obtain ⟨kd, sb, lo, hi, mx, ik, ib, is, kp, dr, ad⟩ := c
  simp only at g2 g3 g5 g6 g7
  unfold bgB
  simp only
  have F1 : Hid (∀ W, Calls Tryz.prog 80 #[.agg #[.int .u8 kd, .bool sb, .int .i64 lo, .int .i64 hi, .int .i64 mx, .bool false, .int .i64 0, .int .i64 0, .string ⟨#[]⟩], .agg #[.int .u8 ik, .int .u64 ib, .string is]] W fun e w' => e = .returned (.int .i64 (fitsF ik ib is kd sb lo hi mx)) ∧ Below W.heap.size W w') := fun W => Fits_of kd sb lo hi mx false 0 0 ⟨#[]⟩ ik ib is W g6.1 g6.2 g5 g7 g2 g3
  clear g2 g3 g5 g6 g7
  by_cases q : kd = 20
  · subst q
    rw [if_pos rfl]
    have ev := eqNw ik ib is
    generalize nwB ik ib is = r at *
    go_enter Tryz.func61, Tryz.ntmps61
    go_wp2_with fail
    obtain ⟨AW, eW⟩ : ∃ AW, AW = w.alloc (.cells #[.int .u8 20, .bool sb, .int .i64 lo, .int .i64 hi, .int .i64 mx, .int .u8 ik, .int .u64 ib, .string is, .bool kp, .int .i64 dr, .string ad] 56 (0, 0)) := ⟨_, rfl⟩
    have AX : AW.heap[w.heap.size]? = some (.cells #[.int .u8 20, .bool sb, .int .i64 lo, .int .i64 hi, .int .i64 mx, .int .u8 ik, .int .u64 ib, .string is, .bool kp, .int .i64 dr, .string ad] 56 (0, 0)) := by rw [eW]; exact heap_alloc_last _ _
    have AB : Hid (Below w.heap.size w AW) := by rw [eW]; exact (Below.refl _ _).alloc (Nat.le_refl _) _
    rw [← eW]
    clear eW
    have zl := blk_in AX
    have c5 : ∀ y : Sub AW, y.w.cell? ⟨w.heap.size, 5, none⟩ = some (.int .u8 ik) := fun y => (y.h.cell (p := ⟨w.heap.size, 5, none⟩) zl).trans (by simp [World.cell?, AX])
    have c6 : ∀ y : Sub AW, y.w.cell? ⟨w.heap.size, 6, none⟩ = some (.int .u64 ib) := fun y => (y.h.cell (p := ⟨w.heap.size, 6, none⟩) zl).trans (by simp [World.cell?, AX])
    have c7 : ∀ y : Sub AW, y.w.cell? ⟨w.heap.size, 7, none⟩ = some (.string is) := fun y => (y.h.cell (p := ⟨w.heap.size, 7, none⟩) zl).trans (by simp [World.cell?, AX])
    have N1 : Hid (∀ y : Sub AW, Calls Tryz.prog 79 #[] y.w fun e w' => e = .returned (.agg #[.int .u8 20, .int .u64 0, .string ⟨#[]⟩]) ∧ Below y.w.heap.size y.w w') := fun y => nowhere_of y.w
    clear AX
    refine wp_region_sub2 (by kernel_rfl) (by kernel_rfl) ?_
    intro cx
    clear cx
    repeat (first | go_big_quiet_skip | (go_big_quiet_want; go_big_quiet_op; first | go_big_quiet_on | (refine ⟨_, fun _ => rfl, ?_⟩; go_big_quiet_on) | go_big_quiet_call (first | (go_at_call 79; exact calls_sub (N1.out _)))))
    refine wpQuiet_nil ?_
    rintro _ ⟨y, rfl⟩
    have Y : Hid (Below w.heap.size w y.w) := bl_tr AB.out y.h
    clear c5 c6 c7 N1 zl ev
    go_wp2
    go_ret
    exact ⟨rfl, Y.out⟩
  · rw [if_neg q]
    have p : (kd == 20) = false := by simp [q]
    clear q
    generalize hz : fitsF ik ib is kd sb lo hi mx = z at *
    by_cases z0 : z = 0
    · subst z0
      go_enter Tryz.func61, Tryz.ntmps61
      go_wp2_with fail
      refine (F1.out _).mono ?_
      rintro e w1 ⟨rfl, hb⟩
      have B1 : Hid (Below w.heap.size w w1) := bl_tr (by go_grown) hb
      clear hb
      go_wp2
      go_ret
      exact ⟨rfl, B1.out⟩
    · have z1 : (z == 0) = false := by simp [z0]
      rw [decide_eq_false z0]
      clear z0
      go_enter Tryz.func61, Tryz.ntmps61
      go_wp2_with fail
      refine (F1.out _).mono ?_
      rintro e w1 ⟨rfl, hb⟩
      have B1 : Hid (Below w.heap.size w w1) := bl_tr (by go_grown) hb
      clear hb
      go_wp2
      go_ret
      exact ⟨rfl, B1.out⟩
set_option maxHeartbeats 4000000 in
theorem mayLie_of (c : CeR) (h : CeOk c) (hk : 1 ≤ c.kd ∧ c.kd ≤ 20) (w : World) : Calls Tryz.prog 62 #[CeV c] w fun e w' => e = .returned (.bool (liB c)) ∧ Below w.heap.size w w' := by
  have g9 := sh_max h.2.2.2.2.2.2.2.2
  clear h
  obtain ⟨kd, sb, lo, hi, mx, ik, ib, is, kp, dr, ad⟩ := c
  simp only at g9 hk
  unfold liB adB
  simp only
  have H1 : Hid (∀ W, Calls Tryz.prog 63 #[.agg #[.int .i64 0, .int .i64 2], .int .i64 dr] W fun e w' => e = .returned (.bool (inB 0 2 dr)) ∧ Below W.heap.size W w') := fun W => has_of _ _ _ W
  have H2 : Hid (∀ W, Calls Tryz.prog 81 #[.string ad] W fun e w' => e = .returned (addrV ad) ∧ Below W.heap.size W w') := fun W => IsAddr_of ad W g9
  have H3 : Hid (∀ W, Calls Tryz.prog 82 #[.int .u8 kd] W fun e w' => e = .returned (.int .i64 (wdK kd)) ∧ w' = W) := fun W => widthI_of kd hk W
  clear g9 hk
  generalize inB 0 2 dr = r1 at *
  cases r1
  · rw [Bool.false_and]
    go_enter Tryz.func62, Tryz.ntmps62
    go_wp2_with fail
    refine (H1.out _).mono ?_
    rintro e w1 ⟨rfl, hb⟩
    have B1 : Hid (Below w.heap.size w w1) := bl_tr (by go_grown) hb
    clear hb
    go_wp2
    go_ret
    exact ⟨rfl, B1.out⟩
  cases q : emB ad
  case true =>
    have q1 : ad.toList.isEmpty = true := q
    rw [if_pos rfl]
    clear q
    by_cases d0 : dr = 0
    · subst d0
      go_enter Tryz.func62, Tryz.ntmps62
      go_wp2_with fail
      refine (H1.out _).mono ?_
      rintro e w1 ⟨rfl, hb⟩
      have B1 : Hid (Below w.heap.size w w1) := bl_tr (by go_grown) hb
      have X1 := (hb.block w.heap.size (by simp)).trans (heap_alloc_last w _)
      have k9 : w1.cell? ⟨w.heap.size, 9, none⟩ = some (.int .i64 0) := by simp [World.cell?, X1]
      have k10 : w1.cell? ⟨w.heap.size, 10, none⟩ = some (.string ad) := by simp [World.cell?, X1]
      clear hb X1
      go_wp2
      go_ret
      exact ⟨rfl, B1.out⟩
    · have d1 : (dr == 0) = false := by simp [d0]
      rw [decide_eq_false d0]
      clear d0
      go_enter Tryz.func62, Tryz.ntmps62
      go_wp2_with fail
      refine (H1.out _).mono ?_
      rintro e w1 ⟨rfl, hb⟩
      have B1 : Hid (Below w.heap.size w w1) := bl_tr (by go_grown) hb
      have X1 := (hb.block w.heap.size (by simp)).trans (heap_alloc_last w _)
      have k9 : w1.cell? ⟨w.heap.size, 9, none⟩ = some (.int .i64 dr) := by simp [World.cell?, X1]
      have k10 : w1.cell? ⟨w.heap.size, 10, none⟩ = some (.string ad) := by simp [World.cell?, X1]
      clear hb X1
      go_wp2
      go_ret
      exact ⟨rfl, B1.out⟩
  case false =>
    have q1 : ad.toList.isEmpty = false := q
    rw [if_neg (by simp)]
    clear q
    unfold addrV at H2
    generalize addrB ad = ra at *
    generalize dirN (byt ad 1) = D at *
    generalize bitN (byt ad 2) = N at *
    generalize wdK kd = wk at *
    cases ra
    · rw [Bool.false_and, Bool.false_and, Bool.false_and]
      simp only [if_neg Bool.false_ne_true] at H2
      go_enter Tryz.func62, Tryz.ntmps62
      go_wp2_with fail
      refine (H1.out _).mono ?_
      rintro e w1 ⟨rfl, hb⟩
      have B1 : Hid (Below w.heap.size w w1) := bl_tr (by go_grown) hb
      have X1 := (hb.block w.heap.size (by simp)).trans (heap_alloc_last w _)
      have XX : Hid _ := X1
      have z1 : w.heap.size < w1.heap.size := blk_in X1
      have k10 : w1.cell? ⟨w.heap.size, 10, none⟩ = some (.string ad) := by simp [World.cell?, X1]
      clear hb X1
      go_wp2_with fail
      refine (H2.out _).mono ?_
      rintro e w2 ⟨rfl, hb⟩
      have B2 : Hid (Below w.heap.size w w2) := bl_tr B1.out hb
      have X2 := (hb.block w.heap.size z1).trans XX.out
      have k0 : w2.cell? ⟨w.heap.size, 0, none⟩ = some (.int .u8 kd) := by simp [World.cell?, X2]
      have k1 : w2.cell? ⟨w.heap.size, 1, none⟩ = some (.bool sb) := by simp [World.cell?, X2]
      have k9 : w2.cell? ⟨w.heap.size, 9, none⟩ = some (.int .i64 dr) := by simp [World.cell?, X2]
      clear hb X2 k10 XX
      go_wp2
      go_ret
      exact ⟨rfl, B2.out⟩
    simp only [if_pos] at H2
    by_cases d0 : D = dr
    case neg =>
      have d1 : (D == dr) = false := by simp [d0]
      rw [decide_eq_false d0]
      clear d0
      go_enter Tryz.func62, Tryz.ntmps62
      go_wp2_with fail
      refine (H1.out _).mono ?_
      rintro e w1 ⟨rfl, hb⟩
      have B1 : Hid (Below w.heap.size w w1) := bl_tr (by go_grown) hb
      have X1 := (hb.block w.heap.size (by simp)).trans (heap_alloc_last w _)
      have XX : Hid _ := X1
      have z1 : w.heap.size < w1.heap.size := blk_in X1
      have k10 : w1.cell? ⟨w.heap.size, 10, none⟩ = some (.string ad) := by simp [World.cell?, X1]
      clear hb X1
      go_wp2_with fail
      refine (H2.out _).mono ?_
      rintro e w2 ⟨rfl, hb⟩
      have B2 : Hid (Below w.heap.size w w2) := bl_tr B1.out hb
      have X2 := (hb.block w.heap.size z1).trans XX.out
      have k0 : w2.cell? ⟨w.heap.size, 0, none⟩ = some (.int .u8 kd) := by simp [World.cell?, X2]
      have k1 : w2.cell? ⟨w.heap.size, 1, none⟩ = some (.bool sb) := by simp [World.cell?, X2]
      have k9 : w2.cell? ⟨w.heap.size, 9, none⟩ = some (.int .i64 dr) := by simp [World.cell?, X2]
      clear hb X2 k10 XX
      go_wp2
      go_ret
      exact ⟨rfl, B2.out⟩
    subst d0
    rw [decide_eq_true rfl]
    by_cases n0 : N = wk
    case neg =>
      have n1 : (N == wk) = false := by simp [n0]
      rw [decide_eq_false n0]
      clear n0
      go_enter Tryz.func62, Tryz.ntmps62
      go_wp2_with fail
      refine (H1.out _).mono ?_
      rintro e w1 ⟨rfl, hb⟩
      have B1 : Hid (Below w.heap.size w w1) := bl_tr (by go_grown) hb
      have X1 := (hb.block w.heap.size (by simp)).trans (heap_alloc_last w _)
      have XX : Hid _ := X1
      have z1 : w.heap.size < w1.heap.size := blk_in X1
      have k10 : w1.cell? ⟨w.heap.size, 10, none⟩ = some (.string ad) := by simp [World.cell?, X1]
      clear hb X1
      go_wp2_with fail
      refine (H2.out _).mono ?_
      rintro e w2 ⟨rfl, hb⟩
      have B2 : Hid (Below w.heap.size w w2) := bl_tr B1.out hb
      have X2 := (hb.block w.heap.size z1).trans XX.out
      have k0 : w2.cell? ⟨w.heap.size, 0, none⟩ = some (.int .u8 kd) := by simp [World.cell?, X2]
      have k1 : w2.cell? ⟨w.heap.size, 1, none⟩ = some (.bool sb) := by simp [World.cell?, X2]
      have k9 : w2.cell? ⟨w.heap.size, 9, none⟩ = some (.int .i64 D) := by simp [World.cell?, X2]
      clear hb X2 k10 XX
      go_wp2_with fail
      refine (H3.out _).mono ?_
      rintro e w3 ⟨rfl, rfl⟩
      go_wp2
      go_ret
      exact ⟨by simp, B2.out⟩
    subst n0
    rw [decide_eq_true rfl]
    go_enter Tryz.func62, Tryz.ntmps62
    go_wp2_with fail
    refine (H1.out _).mono ?_
    rintro e w1 ⟨rfl, hb⟩
    have B1 : Hid (Below w.heap.size w w1) := bl_tr (by go_grown) hb
    have X1 := (hb.block w.heap.size (by simp)).trans (heap_alloc_last w _)
    have XX : Hid _ := X1
    have z1 : w.heap.size < w1.heap.size := blk_in X1
    have k10 : w1.cell? ⟨w.heap.size, 10, none⟩ = some (.string ad) := by simp [World.cell?, X1]
    clear hb X1
    go_wp2_with fail
    refine (H2.out _).mono ?_
    rintro e w2 ⟨rfl, hb⟩
    have B2 : Hid (Below w.heap.size w w2) := bl_tr B1.out hb
    have X2 := (hb.block w.heap.size z1).trans XX.out
    have k0 : w2.cell? ⟨w.heap.size, 0, none⟩ = some (.int .u8 kd) := by simp [World.cell?, X2]
    have k1 : w2.cell? ⟨w.heap.size, 1, none⟩ = some (.bool sb) := by simp [World.cell?, X2]
    have k9 : w2.cell? ⟨w.heap.size, 9, none⟩ = some (.int .i64 D) := by simp [World.cell?, X2]
    clear hb X2 k10 XX
    go_wp2_with fail
    refine (H3.out _).mono ?_
    rintro e w3 ⟨rfl, rfl⟩
    go_wp2
    go_ret
    exact ⟨by simp, B2.out⟩
end Go.Proofs.YtkickdmomompjaaGreat
namespace Go.Proofs.YtkickdmomompjaaGreat
set_option linter.unusedVariables false
open Go.RowKit
set_option maxHeartbeats 4000000 in
theorem mayCell_of (c : CeR) (h : CeOk c) (w : World) : Calls Tryz.prog 34 #[CeV c] w fun e w' => e = .returned (.bool (ceB c)) ∧ Below w.heap.size w w' := by
  have Q1 : Hid (∀ W, Calls Tryz.prog 60 #[CeV c] W fun e w' => e = .returned (.bool (bdB c)) ∧ Below W.heap.size W w') := fun W => mayBound_of c W
  have Q2 : Hid (∀ W, Calls Tryz.prog 61 #[CeV c] W fun e w' => e = .returned (.bool (bgB c)) ∧ Below W.heap.size W w') := fun W => mayBegin_of c h W
  have Q3 : Hid (1 ≤ c.kd ∧ c.kd ≤ 20 → ∀ W, Calls Tryz.prog 62 #[CeV c] W fun e w' => e = .returned (.bool (liB c)) ∧ Below W.heap.size W w') := fun hk W => mayLie_of c h hk W
  clear h
  unfold ceB
  generalize bdB c = r1 at *
  generalize bgB c = r2 at *
  generalize liB c = r3 at *
  obtain ⟨kd, sb, lo, hi, mx, ik, ib, is, kp, dr, ad⟩ := c
  simp only at Q3 ⊢
  unfold inB
  by_cases k1 : 1 ≤ kd
  case neg =>
    rw [decide_eq_false k1]
    go_enter Tryz.func34, Tryz.ntmps34
    go_wp2
    go_ret
    exact ⟨by simp, by go_grown⟩
  by_cases k2 : kd ≤ 20
  case neg =>
    rw [decide_eq_false k2]
    go_enter Tryz.func34, Tryz.ntmps34
    go_wp2
    go_ret
    exact ⟨by simp, by go_grown⟩
  have Q3 : Hid _ := Q3.out ⟨k1, k2⟩
  rw [decide_eq_true k1, decide_eq_true k2]
  by_cases k3 : kd = 20
  · subst k3
    rw [decide_eq_true rfl]
    cases kp
    case true =>
      go_enter Tryz.func34, Tryz.ntmps34
      go_wp2
      go_ret
      exact ⟨by simp, by go_grown⟩
    go_enter Tryz.func34, Tryz.ntmps34
    go_wp2_with fail
    refine (Q1.out _).mono ?_
    rintro e w1 ⟨rfl, hb⟩
    have B1 : Hid (Below w.heap.size w w1) := bl_tr (by go_grown) hb
    have X1 := (hb.block w.heap.size (by simp)).trans (heap_alloc_last w _)
    have XX : Hid _ := X1
    have z1 : w.heap.size < w1.heap.size := blk_in X1
    have k0 : w1.cell? ⟨w.heap.size, 0, none⟩ = some (.int .u8 20) := by simp [World.cell?, X1]
    have k1 : w1.cell? ⟨w.heap.size, 1, none⟩ = some (.bool sb) := by simp [World.cell?, X1]
    have k2 : w1.cell? ⟨w.heap.size, 2, none⟩ = some (.int .i64 lo) := by simp [World.cell?, X1]
    have k3 : w1.cell? ⟨w.heap.size, 3, none⟩ = some (.int .i64 hi) := by simp [World.cell?, X1]
    have k4 : w1.cell? ⟨w.heap.size, 4, none⟩ = some (.int .i64 mx) := by simp [World.cell?, X1]
    have k5 : w1.cell? ⟨w.heap.size, 5, none⟩ = some (.int .u8 ik) := by simp [World.cell?, X1]
    have k6 : w1.cell? ⟨w.heap.size, 6, none⟩ = some (.int .u64 ib) := by simp [World.cell?, X1]
    have k7 : w1.cell? ⟨w.heap.size, 7, none⟩ = some (.string is) := by simp [World.cell?, X1]
    have k8 : w1.cell? ⟨w.heap.size, 8, none⟩ = some (.bool false) := by simp [World.cell?, X1]
    have k9 : w1.cell? ⟨w.heap.size, 9, none⟩ = some (.int .i64 dr) := by simp [World.cell?, X1]
    have k10 : w1.cell? ⟨w.heap.size, 10, none⟩ = some (.string ad) := by simp [World.cell?, X1]
    clear hb X1
    cases r1
    · go_wp2
      go_ret
      exact ⟨by simp, B1.out⟩
    go_wp2_with fail
    refine (Q2.out _).mono ?_
    rintro e w2 ⟨rfl, hb⟩
    have B2 : Hid (Below w.heap.size w w2) := bl_tr B1.out hb
    have X2 := (hb.block w.heap.size z1).trans XX.out
    clear k0 k1 k2 k3 k4 k5 k6 k7 k8 k9 k10 XX
    have k0 : w2.cell? ⟨w.heap.size, 0, none⟩ = some (.int .u8 20) := by simp [World.cell?, X2]
    have k1 : w2.cell? ⟨w.heap.size, 1, none⟩ = some (.bool sb) := by simp [World.cell?, X2]
    have k2 : w2.cell? ⟨w.heap.size, 2, none⟩ = some (.int .i64 lo) := by simp [World.cell?, X2]
    have k3 : w2.cell? ⟨w.heap.size, 3, none⟩ = some (.int .i64 hi) := by simp [World.cell?, X2]
    have k4 : w2.cell? ⟨w.heap.size, 4, none⟩ = some (.int .i64 mx) := by simp [World.cell?, X2]
    have k5 : w2.cell? ⟨w.heap.size, 5, none⟩ = some (.int .u8 ik) := by simp [World.cell?, X2]
    have k6 : w2.cell? ⟨w.heap.size, 6, none⟩ = some (.int .u64 ib) := by simp [World.cell?, X2]
    have k7 : w2.cell? ⟨w.heap.size, 7, none⟩ = some (.string is) := by simp [World.cell?, X2]
    have k8 : w2.cell? ⟨w.heap.size, 8, none⟩ = some (.bool false) := by simp [World.cell?, X2]
    have k9 : w2.cell? ⟨w.heap.size, 9, none⟩ = some (.int .i64 dr) := by simp [World.cell?, X2]
    have k10 : w2.cell? ⟨w.heap.size, 10, none⟩ = some (.string ad) := by simp [World.cell?, X2]
    clear hb X2
    cases r2
    · go_wp2
      go_ret
      exact ⟨by simp, B2.out⟩
    go_wp2_with fail
    refine (Q3.out _).mono ?_
    rintro e w3 ⟨rfl, hb⟩
    have B3 : Hid (Below w.heap.size w w3) := bl_tr B2.out hb
    clear hb k0 k1 k2 k3 k4 k5 k6 k7 k8 k9 k10
    cases r3
    all_goals
      go_wp2
      go_ret
      exact ⟨by simp, B3.out⟩
  · rw [decide_eq_false k3]
    have p3 : (kd == 20) = false := by simp [k3]
    clear k3
    go_enter Tryz.func34, Tryz.ntmps34
    go_wp2_with fail
    refine (Q1.out _).mono ?_
    rintro e w1 ⟨rfl, hb⟩
    have B1 : Hid (Below w.heap.size w w1) := bl_tr (by go_grown) hb
    have X1 := (hb.block w.heap.size (by simp)).trans (heap_alloc_last w _)
    have XX : Hid _ := X1
    have z1 : w.heap.size < w1.heap.size := blk_in X1
    have k0 : w1.cell? ⟨w.heap.size, 0, none⟩ = some (.int .u8 kd) := by simp [World.cell?, X1]
    have k1 : w1.cell? ⟨w.heap.size, 1, none⟩ = some (.bool sb) := by simp [World.cell?, X1]
    have k2 : w1.cell? ⟨w.heap.size, 2, none⟩ = some (.int .i64 lo) := by simp [World.cell?, X1]
    have k3 : w1.cell? ⟨w.heap.size, 3, none⟩ = some (.int .i64 hi) := by simp [World.cell?, X1]
    have k4 : w1.cell? ⟨w.heap.size, 4, none⟩ = some (.int .i64 mx) := by simp [World.cell?, X1]
    have k5 : w1.cell? ⟨w.heap.size, 5, none⟩ = some (.int .u8 ik) := by simp [World.cell?, X1]
    have k6 : w1.cell? ⟨w.heap.size, 6, none⟩ = some (.int .u64 ib) := by simp [World.cell?, X1]
    have k7 : w1.cell? ⟨w.heap.size, 7, none⟩ = some (.string is) := by simp [World.cell?, X1]
    have k8 : w1.cell? ⟨w.heap.size, 8, none⟩ = some (.bool kp) := by simp [World.cell?, X1]
    have k9 : w1.cell? ⟨w.heap.size, 9, none⟩ = some (.int .i64 dr) := by simp [World.cell?, X1]
    have k10 : w1.cell? ⟨w.heap.size, 10, none⟩ = some (.string ad) := by simp [World.cell?, X1]
    clear hb X1
    cases r1
    · go_wp2
      go_ret
      exact ⟨by simp, B1.out⟩
    go_wp2_with fail
    refine (Q2.out _).mono ?_
    rintro e w2 ⟨rfl, hb⟩
    have B2 : Hid (Below w.heap.size w w2) := bl_tr B1.out hb
    have X2 := (hb.block w.heap.size z1).trans XX.out
    clear k0 k1 k2 k3 k4 k5 k6 k7 k8 k9 k10 XX
    have k0 : w2.cell? ⟨w.heap.size, 0, none⟩ = some (.int .u8 kd) := by simp [World.cell?, X2]
    have k1 : w2.cell? ⟨w.heap.size, 1, none⟩ = some (.bool sb) := by simp [World.cell?, X2]
    have k2 : w2.cell? ⟨w.heap.size, 2, none⟩ = some (.int .i64 lo) := by simp [World.cell?, X2]
    have k3 : w2.cell? ⟨w.heap.size, 3, none⟩ = some (.int .i64 hi) := by simp [World.cell?, X2]
    have k4 : w2.cell? ⟨w.heap.size, 4, none⟩ = some (.int .i64 mx) := by simp [World.cell?, X2]
    have k5 : w2.cell? ⟨w.heap.size, 5, none⟩ = some (.int .u8 ik) := by simp [World.cell?, X2]
    have k6 : w2.cell? ⟨w.heap.size, 6, none⟩ = some (.int .u64 ib) := by simp [World.cell?, X2]
    have k7 : w2.cell? ⟨w.heap.size, 7, none⟩ = some (.string is) := by simp [World.cell?, X2]
    have k8 : w2.cell? ⟨w.heap.size, 8, none⟩ = some (.bool kp) := by simp [World.cell?, X2]
    have k9 : w2.cell? ⟨w.heap.size, 9, none⟩ = some (.int .i64 dr) := by simp [World.cell?, X2]
    have k10 : w2.cell? ⟨w.heap.size, 10, none⟩ = some (.string ad) := by simp [World.cell?, X2]
    clear hb X2
    cases r2
    · go_wp2
      go_ret
      exact ⟨by simp, B2.out⟩
    go_wp2_with fail
    refine (Q3.out _).mono ?_
    rintro e w3 ⟨rfl, hb⟩
    have B3 : Hid (Below w.heap.size w w3) := bl_tr B2.out hb
    clear hb k0 k1 k2 k3 k4 k5 k6 k7 k8 k9 k10
    cases r3
    all_goals
      go_wp2
      go_ret
      exact ⟨by simp, B3.out⟩
/-- A set of texts that a call has made. -/
def SetS (w : World) (b n : Nat) (l : List ByteArray) : Prop := ∃ D : DataW Unit, w.ownsMap Tryz.prog 9 unitElem b n D ∧ ∀ s : ByteArray, Maps.has D (.string s.data.toList) = l.any (fun x => decide (x = s))
theorem mk_map (w : World) : (Instr.makeMap 81 none).run Tryz.prog w = .ok (.map (some w.heap.size)) (w.alloc (.map #[] 0)) := rfl
theorem zeroU (w : World) : (zeroValue 82).run Tryz.prog w = .ok (.agg #[]) w := by kernel_rfl
theorem SetS.made (w : World) : SetS (w.alloc (.map #[] 0)) w.heap.size 0 [] := ⟨.map [], World.ownsMap_made w _ _ _, fun s => rfl⟩
theorem SetS.below {w w' : World} {b n : Nat} {l : List ByteArray} (h : SetS w b n l) (hb : Below w.heap.size w w') : SetS w' b n l := by
  obtain ⟨D, h1, h2⟩ := h
  exact ⟨D, h1.kept (row := none) ⟨hb.os, hb.tape, hb.output, hb.size, fun k hk _ => hb.block k hk⟩ (by simp), h2⟩
theorem SetS.lt {w : World} {b n : Nat} {l : List ByteArray} (h : SetS w b n l) : b < w.heap.size := by obtain ⟨D, h1, _⟩ := h; exact h1.lt
theorem keyS (s : ByteArray) (h : s.size ≤ maxLen) : keyOf Tryz.prog 9 (.string s) = some (.string s.data.toList) := WideMaps.keyOf_string_mk Tryz.underlying9 h
theorem ba_list {a b : ByteArray} (h : a.data.toList = b.data.toList) : a = b := by
  cases a; cases b
  exact congrArg ByteArray.mk (Array.toList_inj.1 h)
theorem SetS.put {w w' : World} {b n : Nat} {l : List ByteArray} {D : DataW Unit} (h1 : w.ownsMap Tryz.prog 9 unitElem b n D) (h2 : ∀ s : ByteArray, Maps.has D (.string s.data.toList) = l.any (fun x => decide (x = s))) (s : ByteArray)
    (h : w'.ownsMap Tryz.prog 9 unitElem b (n + 1) (D.put (.string s.data.toList) (.agg []))) : SetS w' b (n + 1) (l ++ [s]) := by
  refine ⟨_, h, fun t => ?_⟩
  rw [List.any_append]
  by_cases e : t = s
  · subst e
    rw [Maps.has_put_same h1.isMap (by simp [WideAt.IsKeyLit])]
    simp
  · rw [Maps.has_put_other (fun q => e (ba_list (by simpa using q))), h2 t]
    have : (s = t) = False := by simp; exact fun q => e q.symm
    simp [this]
end Go.Proofs.YtkickdmomompjaaGreat
