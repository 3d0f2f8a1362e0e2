/- image: may a code stand, end, loop; no statement of the seat is proved here. -/
import Derived.Test.YtdcjngakmkgbmaaGreatKoA6
namespace Go.Proofs.YtdcjngakmkgbmaaGreat
set_option linter.unusedVariables false
open Go.RowKit
/-- A code as a value. -/
abbrev FlV (f : FlR) (x1 x2 : Option Addr) (p1 p2 : Nat) : Value := .agg #[.string f.nm, .int .i64 f.wh, .int .i64 f.ce, .int .i64 f.ba, .int .i64 f.rg, .int .i64 f.sl, .slice x1 f.os.length p1, .slice x2 f.ls.length p2]
theorem inB_t {a b x : Int} (h : inB a b x = true) : a ≤ x ∧ x ≤ b := by unfold inB at h; simpa using h
set_option maxRecDepth 20000 in
set_option maxHeartbeats 8000000 in
theorem mayStand_of (f : FlR) (x1 x2 : Option Addr) (p1 p2 : Nat) (n : Int) (hn : 0 ≤ n ∧ n ≤ 4611686018427387904) (w : World) : Calls Tryz.prog 51 #[FlV f x1 x2 p1 p2, .int .i64 n] w fun e w' => e = .returned (.bool (stB f n)) ∧ Below w.heap.size w w' := by
  obtain ⟨nm, wh, ce, ba, rg, sl, os, ls⟩ := f
  unfold stB
  simp only
  have H1 : Hid (∀ W, Calls Tryz.prog 93 #[.agg #[.int .i64 1, .int .i64 3], .int .i64 wh] W fun e w' => e = .returned (.bool (inB 1 3 wh)) ∧ Below W.heap.size W w') := fun W => has_of _ _ _ W
  have H2 : Hid (∀ W, Calls Tryz.prog 93 #[.agg #[.int .i64 0, .int .i64 4096], .int .i64 ce] W fun e w' => e = .returned (.bool (inB 0 4096 ce)) ∧ Below W.heap.size W w') := fun W => has_of _ _ _ W
  have H3 : Hid (∀ W, Calls Tryz.prog 93 #[.agg #[.int .i64 0, .int .i64 8], .int .i64 rg] W fun e w' => e = .returned (.bool (inB 0 8 rg)) ∧ Below W.heap.size W w') := fun W => has_of _ _ _ W
  have H4 : Hid (∀ W, Calls Tryz.prog 93 #[.agg #[.int .i64 0, .int .i64 1024], .int .i64 sl] W fun e w' => e = .returned (.bool (inB 0 1024 sl)) ∧ Below W.heap.size W w') := fun W => has_of _ _ _ W
  have F0 : Hid (inB 0 4096 ce = true → ∀ W, Calls Tryz.prog 94 #[.int .i64 ba, .int .i64 ce, .int .i64 n] W fun e w' => e = .returned (.bool (ftB ba ce n)) ∧ w' = W) := fun h W => fits_of ba ce n W (inB_t h) hn
  clear hn
  generalize inB 1 3 wh = r1 at *
  generalize inB 0 4096 ce = r2 at *
  generalize inB 0 8 rg = r3 at *
  generalize inB 0 1024 sl = r4 at *
  generalize ftB ba ce n = r5 at *
  cases r1
  · go_enter Tryz.func51, Tryz.ntmps51
    go_wp2_with fail
    refine (H1.out _).mono ?_
    rintro e w1 ⟨rfl, hb⟩
    have B1 : Hid (Below w.heap.size w w1) := bl_tr (by go_grown) hb
    have X1 := (hb.block w.heap.size (by simp)).trans (heap_alloc_last w _)
    have XX1 : Hid _ := X1
    have k0 : w1.cell? ⟨w.heap.size, 0, none⟩ = some (.string nm) := by simp [World.cell?, X1]
    have k1 : w1.cell? ⟨w.heap.size, 1, none⟩ = some (.int .i64 wh) := by simp [World.cell?, X1]
    have k2 : w1.cell? ⟨w.heap.size, 2, none⟩ = some (.int .i64 ce) := by simp [World.cell?, X1]
    have k3 : w1.cell? ⟨w.heap.size, 3, none⟩ = some (.int .i64 ba) := by simp [World.cell?, X1]
    have k4 : w1.cell? ⟨w.heap.size, 4, none⟩ = some (.int .i64 rg) := by simp [World.cell?, X1]
    have k5 : w1.cell? ⟨w.heap.size, 5, none⟩ = some (.int .i64 sl) := by simp [World.cell?, X1]
    have k6 : w1.cell? ⟨w.heap.size, 6, none⟩ = some (.slice x1 os.length p1) := by simp [World.cell?, X1]
    have k7 : w1.cell? ⟨w.heap.size, 7, none⟩ = some (.slice x2 ls.length p2) := by simp [World.cell?, X1]
    clear hb X1
    go_wp2
    go_ret
    exact ⟨by simp, B1.out⟩
  cases r2
  · go_enter Tryz.func51, Tryz.ntmps51
    go_wp2_with fail
    refine (H1.out _).mono ?_
    rintro e w1 ⟨rfl, hb⟩
    have B1 : Hid (Below w.heap.size w w1) := bl_tr (by go_grown) hb
    have X1 := (hb.block w.heap.size (by simp)).trans (heap_alloc_last w _)
    have XX1 : Hid _ := X1
    have k0 : w1.cell? ⟨w.heap.size, 0, none⟩ = some (.string nm) := by simp [World.cell?, X1]
    have k1 : w1.cell? ⟨w.heap.size, 1, none⟩ = some (.int .i64 wh) := by simp [World.cell?, X1]
    have k2 : w1.cell? ⟨w.heap.size, 2, none⟩ = some (.int .i64 ce) := by simp [World.cell?, X1]
    have k3 : w1.cell? ⟨w.heap.size, 3, none⟩ = some (.int .i64 ba) := by simp [World.cell?, X1]
    have k4 : w1.cell? ⟨w.heap.size, 4, none⟩ = some (.int .i64 rg) := by simp [World.cell?, X1]
    have k5 : w1.cell? ⟨w.heap.size, 5, none⟩ = some (.int .i64 sl) := by simp [World.cell?, X1]
    have k6 : w1.cell? ⟨w.heap.size, 6, none⟩ = some (.slice x1 os.length p1) := by simp [World.cell?, X1]
    have k7 : w1.cell? ⟨w.heap.size, 7, none⟩ = some (.slice x2 ls.length p2) := by simp [World.cell?, X1]
    clear hb X1
    go_wp2_with fail
    refine (H2.out _).mono ?_
    rintro e w2 ⟨rfl, hb⟩
    have B2 : Hid (Below w.heap.size w w2) := bl_tr B1.out hb
    have X2 := (hb.block w.heap.size (blk_in XX1.out)).trans XX1.out
    clear k0 k1 k2 k3 k4 k5 k6 k7
    have XX2 : Hid _ := X2
    have k0 : w2.cell? ⟨w.heap.size, 0, none⟩ = some (.string nm) := by simp [World.cell?, X2]
    have k1 : w2.cell? ⟨w.heap.size, 1, none⟩ = some (.int .i64 wh) := by simp [World.cell?, X2]
    have k2 : w2.cell? ⟨w.heap.size, 2, none⟩ = some (.int .i64 ce) := by simp [World.cell?, X2]
    have k3 : w2.cell? ⟨w.heap.size, 3, none⟩ = some (.int .i64 ba) := by simp [World.cell?, X2]
    have k4 : w2.cell? ⟨w.heap.size, 4, none⟩ = some (.int .i64 rg) := by simp [World.cell?, X2]
    have k5 : w2.cell? ⟨w.heap.size, 5, none⟩ = some (.int .i64 sl) := by simp [World.cell?, X2]
    have k6 : w2.cell? ⟨w.heap.size, 6, none⟩ = some (.slice x1 os.length p1) := by simp [World.cell?, X2]
    have k7 : w2.cell? ⟨w.heap.size, 7, none⟩ = some (.slice x2 ls.length p2) := by simp [World.cell?, X2]
    clear hb X2
    go_wp2
    go_ret
    exact ⟨by simp, B2.out⟩
  have F1 : Hid _ := F0.out rfl
  clear F0
  by_cases q1 : wh = 1
  · have n1 : (wh == 1) = true := by simp [q1]
    rw [decide_eq_true q1]
    clear q1
    by_cases q2 : ba = -1
    · have n2 : (ba == -1) = true := by simp [q2]
      rw [decide_eq_true q2]
      clear q2
      cases r5
      · cases r3
        · go_enter Tryz.func51, Tryz.ntmps51
          go_wp2_with fail
          refine (H1.out _).mono ?_
          rintro e w1 ⟨rfl, hb⟩
          have B1 : Hid (Below w.heap.size w w1) := bl_tr (by go_grown) hb
          have X1 := (hb.block w.heap.size (by simp)).trans (heap_alloc_last w _)
          have XX1 : Hid _ := X1
          have k0 : w1.cell? ⟨w.heap.size, 0, none⟩ = some (.string nm) := by simp [World.cell?, X1]
          have k1 : w1.cell? ⟨w.heap.size, 1, none⟩ = some (.int .i64 wh) := by simp [World.cell?, X1]
          have k2 : w1.cell? ⟨w.heap.size, 2, none⟩ = some (.int .i64 ce) := by simp [World.cell?, X1]
          have k3 : w1.cell? ⟨w.heap.size, 3, none⟩ = some (.int .i64 ba) := by simp [World.cell?, X1]
          have k4 : w1.cell? ⟨w.heap.size, 4, none⟩ = some (.int .i64 rg) := by simp [World.cell?, X1]
          have k5 : w1.cell? ⟨w.heap.size, 5, none⟩ = some (.int .i64 sl) := by simp [World.cell?, X1]
          have k6 : w1.cell? ⟨w.heap.size, 6, none⟩ = some (.slice x1 os.length p1) := by simp [World.cell?, X1]
          have k7 : w1.cell? ⟨w.heap.size, 7, none⟩ = some (.slice x2 ls.length p2) := by simp [World.cell?, X1]
          clear hb X1
          go_wp2_with fail
          refine (H2.out _).mono ?_
          rintro e w2 ⟨rfl, hb⟩
          have B2 : Hid (Below w.heap.size w w2) := bl_tr B1.out hb
          have X2 := (hb.block w.heap.size (blk_in XX1.out)).trans XX1.out
          clear k0 k1 k2 k3 k4 k5 k6 k7
          have XX2 : Hid _ := X2
          have k0 : w2.cell? ⟨w.heap.size, 0, none⟩ = some (.string nm) := by simp [World.cell?, X2]
          have k1 : w2.cell? ⟨w.heap.size, 1, none⟩ = some (.int .i64 wh) := by simp [World.cell?, X2]
          have k2 : w2.cell? ⟨w.heap.size, 2, none⟩ = some (.int .i64 ce) := by simp [World.cell?, X2]
          have k3 : w2.cell? ⟨w.heap.size, 3, none⟩ = some (.int .i64 ba) := by simp [World.cell?, X2]
          have k4 : w2.cell? ⟨w.heap.size, 4, none⟩ = some (.int .i64 rg) := by simp [World.cell?, X2]
          have k5 : w2.cell? ⟨w.heap.size, 5, none⟩ = some (.int .i64 sl) := by simp [World.cell?, X2]
          have k6 : w2.cell? ⟨w.heap.size, 6, none⟩ = some (.slice x1 os.length p1) := by simp [World.cell?, X2]
          have k7 : w2.cell? ⟨w.heap.size, 7, none⟩ = some (.slice x2 ls.length p2) := by simp [World.cell?, X2]
          clear hb X2
          go_wp2_with fail
          refine (F1.out _).mono ?_
          rintro e _ ⟨rfl, rfl⟩
          go_wp2_with fail
          refine (H3.out _).mono ?_
          rintro e w3 ⟨rfl, hb⟩
          have B3 : Hid (Below w.heap.size w w3) := bl_tr B2.out hb
          have X3 := (hb.block w.heap.size (blk_in XX2.out)).trans XX2.out
          clear k0 k1 k2 k3 k4 k5 k6 k7
          have XX3 : Hid _ := X3
          have k0 : w3.cell? ⟨w.heap.size, 0, none⟩ = some (.string nm) := by simp [World.cell?, X3]
          have k1 : w3.cell? ⟨w.heap.size, 1, none⟩ = some (.int .i64 wh) := by simp [World.cell?, X3]
          have k2 : w3.cell? ⟨w.heap.size, 2, none⟩ = some (.int .i64 ce) := by simp [World.cell?, X3]
          have k3 : w3.cell? ⟨w.heap.size, 3, none⟩ = some (.int .i64 ba) := by simp [World.cell?, X3]
          have k4 : w3.cell? ⟨w.heap.size, 4, none⟩ = some (.int .i64 rg) := by simp [World.cell?, X3]
          have k5 : w3.cell? ⟨w.heap.size, 5, none⟩ = some (.int .i64 sl) := by simp [World.cell?, X3]
          have k6 : w3.cell? ⟨w.heap.size, 6, none⟩ = some (.slice x1 os.length p1) := by simp [World.cell?, X3]
          have k7 : w3.cell? ⟨w.heap.size, 7, none⟩ = some (.slice x2 ls.length p2) := by simp [World.cell?, X3]
          clear hb X3
          go_wp2
          go_ret
          exact ⟨by simp, B3.out⟩
        cases r4
        · go_enter Tryz.func51, Tryz.ntmps51
          go_wp2_with fail
          refine (H1.out _).mono ?_
          rintro e w1 ⟨rfl, hb⟩
          have B1 : Hid (Below w.heap.size w w1) := bl_tr (by go_grown) hb
          have X1 := (hb.block w.heap.size (by simp)).trans (heap_alloc_last w _)
          have XX1 : Hid _ := X1
          have k0 : w1.cell? ⟨w.heap.size, 0, none⟩ = some (.string nm) := by simp [World.cell?, X1]
          have k1 : w1.cell? ⟨w.heap.size, 1, none⟩ = some (.int .i64 wh) := by simp [World.cell?, X1]
          have k2 : w1.cell? ⟨w.heap.size, 2, none⟩ = some (.int .i64 ce) := by simp [World.cell?, X1]
          have k3 : w1.cell? ⟨w.heap.size, 3, none⟩ = some (.int .i64 ba) := by simp [World.cell?, X1]
          have k4 : w1.cell? ⟨w.heap.size, 4, none⟩ = some (.int .i64 rg) := by simp [World.cell?, X1]
          have k5 : w1.cell? ⟨w.heap.size, 5, none⟩ = some (.int .i64 sl) := by simp [World.cell?, X1]
          have k6 : w1.cell? ⟨w.heap.size, 6, none⟩ = some (.slice x1 os.length p1) := by simp [World.cell?, X1]
          have k7 : w1.cell? ⟨w.heap.size, 7, none⟩ = some (.slice x2 ls.length p2) := by simp [World.cell?, X1]
          clear hb X1
          go_wp2_with fail
          refine (H2.out _).mono ?_
          rintro e w2 ⟨rfl, hb⟩
          have B2 : Hid (Below w.heap.size w w2) := bl_tr B1.out hb
          have X2 := (hb.block w.heap.size (blk_in XX1.out)).trans XX1.out
          clear k0 k1 k2 k3 k4 k5 k6 k7
          have XX2 : Hid _ := X2
          have k0 : w2.cell? ⟨w.heap.size, 0, none⟩ = some (.string nm) := by simp [World.cell?, X2]
          have k1 : w2.cell? ⟨w.heap.size, 1, none⟩ = some (.int .i64 wh) := by simp [World.cell?, X2]
          have k2 : w2.cell? ⟨w.heap.size, 2, none⟩ = some (.int .i64 ce) := by simp [World.cell?, X2]
          have k3 : w2.cell? ⟨w.heap.size, 3, none⟩ = some (.int .i64 ba) := by simp [World.cell?, X2]
          have k4 : w2.cell? ⟨w.heap.size, 4, none⟩ = some (.int .i64 rg) := by simp [World.cell?, X2]
          have k5 : w2.cell? ⟨w.heap.size, 5, none⟩ = some (.int .i64 sl) := by simp [World.cell?, X2]
          have k6 : w2.cell? ⟨w.heap.size, 6, none⟩ = some (.slice x1 os.length p1) := by simp [World.cell?, X2]
          have k7 : w2.cell? ⟨w.heap.size, 7, none⟩ = some (.slice x2 ls.length p2) := by simp [World.cell?, X2]
          clear hb X2
          go_wp2_with fail
          refine (F1.out _).mono ?_
          rintro e _ ⟨rfl, rfl⟩
          go_wp2_with fail
          refine (H3.out _).mono ?_
          rintro e w3 ⟨rfl, hb⟩
          have B3 : Hid (Below w.heap.size w w3) := bl_tr B2.out hb
          have X3 := (hb.block w.heap.size (blk_in XX2.out)).trans XX2.out
          clear k0 k1 k2 k3 k4 k5 k6 k7
          have XX3 : Hid _ := X3
          have k0 : w3.cell? ⟨w.heap.size, 0, none⟩ = some (.string nm) := by simp [World.cell?, X3]
          have k1 : w3.cell? ⟨w.heap.size, 1, none⟩ = some (.int .i64 wh) := by simp [World.cell?, X3]
          have k2 : w3.cell? ⟨w.heap.size, 2, none⟩ = some (.int .i64 ce) := by simp [World.cell?, X3]
          have k3 : w3.cell? ⟨w.heap.size, 3, none⟩ = some (.int .i64 ba) := by simp [World.cell?, X3]
          have k4 : w3.cell? ⟨w.heap.size, 4, none⟩ = some (.int .i64 rg) := by simp [World.cell?, X3]
          have k5 : w3.cell? ⟨w.heap.size, 5, none⟩ = some (.int .i64 sl) := by simp [World.cell?, X3]
          have k6 : w3.cell? ⟨w.heap.size, 6, none⟩ = some (.slice x1 os.length p1) := by simp [World.cell?, X3]
          have k7 : w3.cell? ⟨w.heap.size, 7, none⟩ = some (.slice x2 ls.length p2) := by simp [World.cell?, X3]
          clear hb X3
          go_wp2_with fail
          refine (H4.out _).mono ?_
          rintro e w4 ⟨rfl, hb⟩
          have B4 : Hid (Below w.heap.size w w4) := bl_tr B3.out hb
          have X4 := (hb.block w.heap.size (blk_in XX3.out)).trans XX3.out
          clear k0 k1 k2 k3 k4 k5 k6 k7
          have XX4 : Hid _ := X4
          have k0 : w4.cell? ⟨w.heap.size, 0, none⟩ = some (.string nm) := by simp [World.cell?, X4]
          have k1 : w4.cell? ⟨w.heap.size, 1, none⟩ = some (.int .i64 wh) := by simp [World.cell?, X4]
          have k2 : w4.cell? ⟨w.heap.size, 2, none⟩ = some (.int .i64 ce) := by simp [World.cell?, X4]
          have k3 : w4.cell? ⟨w.heap.size, 3, none⟩ = some (.int .i64 ba) := by simp [World.cell?, X4]
          have k4 : w4.cell? ⟨w.heap.size, 4, none⟩ = some (.int .i64 rg) := by simp [World.cell?, X4]
          have k5 : w4.cell? ⟨w.heap.size, 5, none⟩ = some (.int .i64 sl) := by simp [World.cell?, X4]
          have k6 : w4.cell? ⟨w.heap.size, 6, none⟩ = some (.slice x1 os.length p1) := by simp [World.cell?, X4]
          have k7 : w4.cell? ⟨w.heap.size, 7, none⟩ = some (.slice x2 ls.length p2) := by simp [World.cell?, X4]
          clear hb X4
          go_wp2
          go_ret
          exact ⟨by simp, B4.out⟩
        · go_enter Tryz.func51, Tryz.ntmps51
          go_wp2_with fail
          refine (H1.out _).mono ?_
          rintro e w1 ⟨rfl, hb⟩
          have B1 : Hid (Below w.heap.size w w1) := bl_tr (by go_grown) hb
          have X1 := (hb.block w.heap.size (by simp)).trans (heap_alloc_last w _)
          have XX1 : Hid _ := X1
          have k0 : w1.cell? ⟨w.heap.size, 0, none⟩ = some (.string nm) := by simp [World.cell?, X1]
          have k1 : w1.cell? ⟨w.heap.size, 1, none⟩ = some (.int .i64 wh) := by simp [World.cell?, X1]
          have k2 : w1.cell? ⟨w.heap.size, 2, none⟩ = some (.int .i64 ce) := by simp [World.cell?, X1]
          have k3 : w1.cell? ⟨w.heap.size, 3, none⟩ = some (.int .i64 ba) := by simp [World.cell?, X1]
          have k4 : w1.cell? ⟨w.heap.size, 4, none⟩ = some (.int .i64 rg) := by simp [World.cell?, X1]
          have k5 : w1.cell? ⟨w.heap.size, 5, none⟩ = some (.int .i64 sl) := by simp [World.cell?, X1]
          have k6 : w1.cell? ⟨w.heap.size, 6, none⟩ = some (.slice x1 os.length p1) := by simp [World.cell?, X1]
          have k7 : w1.cell? ⟨w.heap.size, 7, none⟩ = some (.slice x2 ls.length p2) := by simp [World.cell?, X1]
          clear hb X1
          go_wp2_with fail
          refine (H2.out _).mono ?_
          rintro e w2 ⟨rfl, hb⟩
          have B2 : Hid (Below w.heap.size w w2) := bl_tr B1.out hb
          have X2 := (hb.block w.heap.size (blk_in XX1.out)).trans XX1.out
          clear k0 k1 k2 k3 k4 k5 k6 k7
          have XX2 : Hid _ := X2
          have k0 : w2.cell? ⟨w.heap.size, 0, none⟩ = some (.string nm) := by simp [World.cell?, X2]
          have k1 : w2.cell? ⟨w.heap.size, 1, none⟩ = some (.int .i64 wh) := by simp [World.cell?, X2]
          have k2 : w2.cell? ⟨w.heap.size, 2, none⟩ = some (.int .i64 ce) := by simp [World.cell?, X2]
          have k3 : w2.cell? ⟨w.heap.size, 3, none⟩ = some (.int .i64 ba) := by simp [World.cell?, X2]
          have k4 : w2.cell? ⟨w.heap.size, 4, none⟩ = some (.int .i64 rg) := by simp [World.cell?, X2]
          have k5 : w2.cell? ⟨w.heap.size, 5, none⟩ = some (.int .i64 sl) := by simp [World.cell?, X2]
          have k6 : w2.cell? ⟨w.heap.size, 6, none⟩ = some (.slice x1 os.length p1) := by simp [World.cell?, X2]
          have k7 : w2.cell? ⟨w.heap.size, 7, none⟩ = some (.slice x2 ls.length p2) := by simp [World.cell?, X2]
          clear hb X2
          go_wp2_with fail
          refine (F1.out _).mono ?_
          rintro e _ ⟨rfl, rfl⟩
          go_wp2_with fail
          refine (H3.out _).mono ?_
          rintro e w3 ⟨rfl, hb⟩
          have B3 : Hid (Below w.heap.size w w3) := bl_tr B2.out hb
          have X3 := (hb.block w.heap.size (blk_in XX2.out)).trans XX2.out
          clear k0 k1 k2 k3 k4 k5 k6 k7
          have XX3 : Hid _ := X3
          have k0 : w3.cell? ⟨w.heap.size, 0, none⟩ = some (.string nm) := by simp [World.cell?, X3]
          have k1 : w3.cell? ⟨w.heap.size, 1, none⟩ = some (.int .i64 wh) := by simp [World.cell?, X3]
          have k2 : w3.cell? ⟨w.heap.size, 2, none⟩ = some (.int .i64 ce) := by simp [World.cell?, X3]
          have k3 : w3.cell? ⟨w.heap.size, 3, none⟩ = some (.int .i64 ba) := by simp [World.cell?, X3]
          have k4 : w3.cell? ⟨w.heap.size, 4, none⟩ = some (.int .i64 rg) := by simp [World.cell?, X3]
          have k5 : w3.cell? ⟨w.heap.size, 5, none⟩ = some (.int .i64 sl) := by simp [World.cell?, X3]
          have k6 : w3.cell? ⟨w.heap.size, 6, none⟩ = some (.slice x1 os.length p1) := by simp [World.cell?, X3]
          have k7 : w3.cell? ⟨w.heap.size, 7, none⟩ = some (.slice x2 ls.length p2) := by simp [World.cell?, X3]
          clear hb X3
          go_wp2_with fail
          refine (H4.out _).mono ?_
          rintro e w4 ⟨rfl, hb⟩
          have B4 : Hid (Below w.heap.size w w4) := bl_tr B3.out hb
          have X4 := (hb.block w.heap.size (blk_in XX3.out)).trans XX3.out
          clear k0 k1 k2 k3 k4 k5 k6 k7
          have XX4 : Hid _ := X4
          have k0 : w4.cell? ⟨w.heap.size, 0, none⟩ = some (.string nm) := by simp [World.cell?, X4]
          have k1 : w4.cell? ⟨w.heap.size, 1, none⟩ = some (.int .i64 wh) := by simp [World.cell?, X4]
          have k2 : w4.cell? ⟨w.heap.size, 2, none⟩ = some (.int .i64 ce) := by simp [World.cell?, X4]
          have k3 : w4.cell? ⟨w.heap.size, 3, none⟩ = some (.int .i64 ba) := by simp [World.cell?, X4]
          have k4 : w4.cell? ⟨w.heap.size, 4, none⟩ = some (.int .i64 rg) := by simp [World.cell?, X4]
          have k5 : w4.cell? ⟨w.heap.size, 5, none⟩ = some (.int .i64 sl) := by simp [World.cell?, X4]
          have k6 : w4.cell? ⟨w.heap.size, 6, none⟩ = some (.slice x1 os.length p1) := by simp [World.cell?, X4]
          have k7 : w4.cell? ⟨w.heap.size, 7, none⟩ = some (.slice x2 ls.length p2) := by simp [World.cell?, X4]
          clear hb X4
          go_wp2
          go_ret
          exact ⟨by simp, B4.out⟩
      · cases r3
        · go_enter Tryz.func51, Tryz.ntmps51
          go_wp2_with fail
          refine (H1.out _).mono ?_
          rintro e w1 ⟨rfl, hb⟩
          have B1 : Hid (Below w.heap.size w w1) := bl_tr (by go_grown) hb
          have X1 := (hb.block w.heap.size (by simp)).trans (heap_alloc_last w _)
          have XX1 : Hid _ := X1
          have k0 : w1.cell? ⟨w.heap.size, 0, none⟩ = some (.string nm) := by simp [World.cell?, X1]
          have k1 : w1.cell? ⟨w.heap.size, 1, none⟩ = some (.int .i64 wh) := by simp [World.cell?, X1]
          have k2 : w1.cell? ⟨w.heap.size, 2, none⟩ = some (.int .i64 ce) := by simp [World.cell?, X1]
          have k3 : w1.cell? ⟨w.heap.size, 3, none⟩ = some (.int .i64 ba) := by simp [World.cell?, X1]
          have k4 : w1.cell? ⟨w.heap.size, 4, none⟩ = some (.int .i64 rg) := by simp [World.cell?, X1]
          have k5 : w1.cell? ⟨w.heap.size, 5, none⟩ = some (.int .i64 sl) := by simp [World.cell?, X1]
          have k6 : w1.cell? ⟨w.heap.size, 6, none⟩ = some (.slice x1 os.length p1) := by simp [World.cell?, X1]
          have k7 : w1.cell? ⟨w.heap.size, 7, none⟩ = some (.slice x2 ls.length p2) := by simp [World.cell?, X1]
          clear hb X1
          go_wp2_with fail
          refine (H2.out _).mono ?_
          rintro e w2 ⟨rfl, hb⟩
          have B2 : Hid (Below w.heap.size w w2) := bl_tr B1.out hb
          have X2 := (hb.block w.heap.size (blk_in XX1.out)).trans XX1.out
          clear k0 k1 k2 k3 k4 k5 k6 k7
          have XX2 : Hid _ := X2
          have k0 : w2.cell? ⟨w.heap.size, 0, none⟩ = some (.string nm) := by simp [World.cell?, X2]
          have k1 : w2.cell? ⟨w.heap.size, 1, none⟩ = some (.int .i64 wh) := by simp [World.cell?, X2]
          have k2 : w2.cell? ⟨w.heap.size, 2, none⟩ = some (.int .i64 ce) := by simp [World.cell?, X2]
          have k3 : w2.cell? ⟨w.heap.size, 3, none⟩ = some (.int .i64 ba) := by simp [World.cell?, X2]
          have k4 : w2.cell? ⟨w.heap.size, 4, none⟩ = some (.int .i64 rg) := by simp [World.cell?, X2]
          have k5 : w2.cell? ⟨w.heap.size, 5, none⟩ = some (.int .i64 sl) := by simp [World.cell?, X2]
          have k6 : w2.cell? ⟨w.heap.size, 6, none⟩ = some (.slice x1 os.length p1) := by simp [World.cell?, X2]
          have k7 : w2.cell? ⟨w.heap.size, 7, none⟩ = some (.slice x2 ls.length p2) := by simp [World.cell?, X2]
          clear hb X2
          go_wp2_with fail
          refine (F1.out _).mono ?_
          rintro e _ ⟨rfl, rfl⟩
          go_wp2_with fail
          refine (H3.out _).mono ?_
          rintro e w3 ⟨rfl, hb⟩
          have B3 : Hid (Below w.heap.size w w3) := bl_tr B2.out hb
          have X3 := (hb.block w.heap.size (blk_in XX2.out)).trans XX2.out
          clear k0 k1 k2 k3 k4 k5 k6 k7
          have XX3 : Hid _ := X3
          have k0 : w3.cell? ⟨w.heap.size, 0, none⟩ = some (.string nm) := by simp [World.cell?, X3]
          have k1 : w3.cell? ⟨w.heap.size, 1, none⟩ = some (.int .i64 wh) := by simp [World.cell?, X3]
          have k2 : w3.cell? ⟨w.heap.size, 2, none⟩ = some (.int .i64 ce) := by simp [World.cell?, X3]
          have k3 : w3.cell? ⟨w.heap.size, 3, none⟩ = some (.int .i64 ba) := by simp [World.cell?, X3]
          have k4 : w3.cell? ⟨w.heap.size, 4, none⟩ = some (.int .i64 rg) := by simp [World.cell?, X3]
          have k5 : w3.cell? ⟨w.heap.size, 5, none⟩ = some (.int .i64 sl) := by simp [World.cell?, X3]
          have k6 : w3.cell? ⟨w.heap.size, 6, none⟩ = some (.slice x1 os.length p1) := by simp [World.cell?, X3]
          have k7 : w3.cell? ⟨w.heap.size, 7, none⟩ = some (.slice x2 ls.length p2) := by simp [World.cell?, X3]
          clear hb X3
          go_wp2
          go_ret
          exact ⟨by simp, B3.out⟩
        cases r4
        · go_enter Tryz.func51, Tryz.ntmps51
          go_wp2_with fail
          refine (H1.out _).mono ?_
          rintro e w1 ⟨rfl, hb⟩
          have B1 : Hid (Below w.heap.size w w1) := bl_tr (by go_grown) hb
          have X1 := (hb.block w.heap.size (by simp)).trans (heap_alloc_last w _)
          have XX1 : Hid _ := X1
          have k0 : w1.cell? ⟨w.heap.size, 0, none⟩ = some (.string nm) := by simp [World.cell?, X1]
          have k1 : w1.cell? ⟨w.heap.size, 1, none⟩ = some (.int .i64 wh) := by simp [World.cell?, X1]
          have k2 : w1.cell? ⟨w.heap.size, 2, none⟩ = some (.int .i64 ce) := by simp [World.cell?, X1]
          have k3 : w1.cell? ⟨w.heap.size, 3, none⟩ = some (.int .i64 ba) := by simp [World.cell?, X1]
          have k4 : w1.cell? ⟨w.heap.size, 4, none⟩ = some (.int .i64 rg) := by simp [World.cell?, X1]
          have k5 : w1.cell? ⟨w.heap.size, 5, none⟩ = some (.int .i64 sl) := by simp [World.cell?, X1]
          have k6 : w1.cell? ⟨w.heap.size, 6, none⟩ = some (.slice x1 os.length p1) := by simp [World.cell?, X1]
          have k7 : w1.cell? ⟨w.heap.size, 7, none⟩ = some (.slice x2 ls.length p2) := by simp [World.cell?, X1]
          clear hb X1
          go_wp2_with fail
          refine (H2.out _).mono ?_
          rintro e w2 ⟨rfl, hb⟩
          have B2 : Hid (Below w.heap.size w w2) := bl_tr B1.out hb
          have X2 := (hb.block w.heap.size (blk_in XX1.out)).trans XX1.out
          clear k0 k1 k2 k3 k4 k5 k6 k7
          have XX2 : Hid _ := X2
          have k0 : w2.cell? ⟨w.heap.size, 0, none⟩ = some (.string nm) := by simp [World.cell?, X2]
          have k1 : w2.cell? ⟨w.heap.size, 1, none⟩ = some (.int .i64 wh) := by simp [World.cell?, X2]
          have k2 : w2.cell? ⟨w.heap.size, 2, none⟩ = some (.int .i64 ce) := by simp [World.cell?, X2]
          have k3 : w2.cell? ⟨w.heap.size, 3, none⟩ = some (.int .i64 ba) := by simp [World.cell?, X2]
          have k4 : w2.cell? ⟨w.heap.size, 4, none⟩ = some (.int .i64 rg) := by simp [World.cell?, X2]
          have k5 : w2.cell? ⟨w.heap.size, 5, none⟩ = some (.int .i64 sl) := by simp [World.cell?, X2]
          have k6 : w2.cell? ⟨w.heap.size, 6, none⟩ = some (.slice x1 os.length p1) := by simp [World.cell?, X2]
          have k7 : w2.cell? ⟨w.heap.size, 7, none⟩ = some (.slice x2 ls.length p2) := by simp [World.cell?, X2]
          clear hb X2
          go_wp2_with fail
          refine (F1.out _).mono ?_
          rintro e _ ⟨rfl, rfl⟩
          go_wp2_with fail
          refine (H3.out _).mono ?_
          rintro e w3 ⟨rfl, hb⟩
          have B3 : Hid (Below w.heap.size w w3) := bl_tr B2.out hb
          have X3 := (hb.block w.heap.size (blk_in XX2.out)).trans XX2.out
          clear k0 k1 k2 k3 k4 k5 k6 k7
          have XX3 : Hid _ := X3
          have k0 : w3.cell? ⟨w.heap.size, 0, none⟩ = some (.string nm) := by simp [World.cell?, X3]
          have k1 : w3.cell? ⟨w.heap.size, 1, none⟩ = some (.int .i64 wh) := by simp [World.cell?, X3]
          have k2 : w3.cell? ⟨w.heap.size, 2, none⟩ = some (.int .i64 ce) := by simp [World.cell?, X3]
          have k3 : w3.cell? ⟨w.heap.size, 3, none⟩ = some (.int .i64 ba) := by simp [World.cell?, X3]
          have k4 : w3.cell? ⟨w.heap.size, 4, none⟩ = some (.int .i64 rg) := by simp [World.cell?, X3]
          have k5 : w3.cell? ⟨w.heap.size, 5, none⟩ = some (.int .i64 sl) := by simp [World.cell?, X3]
          have k6 : w3.cell? ⟨w.heap.size, 6, none⟩ = some (.slice x1 os.length p1) := by simp [World.cell?, X3]
          have k7 : w3.cell? ⟨w.heap.size, 7, none⟩ = some (.slice x2 ls.length p2) := by simp [World.cell?, X3]
          clear hb X3
          go_wp2_with fail
          refine (H4.out _).mono ?_
          rintro e w4 ⟨rfl, hb⟩
          have B4 : Hid (Below w.heap.size w w4) := bl_tr B3.out hb
          have X4 := (hb.block w.heap.size (blk_in XX3.out)).trans XX3.out
          clear k0 k1 k2 k3 k4 k5 k6 k7
          have XX4 : Hid _ := X4
          have k0 : w4.cell? ⟨w.heap.size, 0, none⟩ = some (.string nm) := by simp [World.cell?, X4]
          have k1 : w4.cell? ⟨w.heap.size, 1, none⟩ = some (.int .i64 wh) := by simp [World.cell?, X4]
          have k2 : w4.cell? ⟨w.heap.size, 2, none⟩ = some (.int .i64 ce) := by simp [World.cell?, X4]
          have k3 : w4.cell? ⟨w.heap.size, 3, none⟩ = some (.int .i64 ba) := by simp [World.cell?, X4]
          have k4 : w4.cell? ⟨w.heap.size, 4, none⟩ = some (.int .i64 rg) := by simp [World.cell?, X4]
          have k5 : w4.cell? ⟨w.heap.size, 5, none⟩ = some (.int .i64 sl) := by simp [World.cell?, X4]
          have k6 : w4.cell? ⟨w.heap.size, 6, none⟩ = some (.slice x1 os.length p1) := by simp [World.cell?, X4]
          have k7 : w4.cell? ⟨w.heap.size, 7, none⟩ = some (.slice x2 ls.length p2) := by simp [World.cell?, X4]
          clear hb X4
          go_wp2
          go_ret
          exact ⟨by simp, B4.out⟩
        · go_enter Tryz.func51, Tryz.ntmps51
          go_wp2_with fail
          refine (H1.out _).mono ?_
          rintro e w1 ⟨rfl, hb⟩
          have B1 : Hid (Below w.heap.size w w1) := bl_tr (by go_grown) hb
          have X1 := (hb.block w.heap.size (by simp)).trans (heap_alloc_last w _)
          have XX1 : Hid _ := X1
          have k0 : w1.cell? ⟨w.heap.size, 0, none⟩ = some (.string nm) := by simp [World.cell?, X1]
          have k1 : w1.cell? ⟨w.heap.size, 1, none⟩ = some (.int .i64 wh) := by simp [World.cell?, X1]
          have k2 : w1.cell? ⟨w.heap.size, 2, none⟩ = some (.int .i64 ce) := by simp [World.cell?, X1]
          have k3 : w1.cell? ⟨w.heap.size, 3, none⟩ = some (.int .i64 ba) := by simp [World.cell?, X1]
          have k4 : w1.cell? ⟨w.heap.size, 4, none⟩ = some (.int .i64 rg) := by simp [World.cell?, X1]
          have k5 : w1.cell? ⟨w.heap.size, 5, none⟩ = some (.int .i64 sl) := by simp [World.cell?, X1]
          have k6 : w1.cell? ⟨w.heap.size, 6, none⟩ = some (.slice x1 os.length p1) := by simp [World.cell?, X1]
          have k7 : w1.cell? ⟨w.heap.size, 7, none⟩ = some (.slice x2 ls.length p2) := by simp [World.cell?, X1]
          clear hb X1
          go_wp2_with fail
          refine (H2.out _).mono ?_
          rintro e w2 ⟨rfl, hb⟩
          have B2 : Hid (Below w.heap.size w w2) := bl_tr B1.out hb
          have X2 := (hb.block w.heap.size (blk_in XX1.out)).trans XX1.out
          clear k0 k1 k2 k3 k4 k5 k6 k7
          have XX2 : Hid _ := X2
          have k0 : w2.cell? ⟨w.heap.size, 0, none⟩ = some (.string nm) := by simp [World.cell?, X2]
          have k1 : w2.cell? ⟨w.heap.size, 1, none⟩ = some (.int .i64 wh) := by simp [World.cell?, X2]
          have k2 : w2.cell? ⟨w.heap.size, 2, none⟩ = some (.int .i64 ce) := by simp [World.cell?, X2]
          have k3 : w2.cell? ⟨w.heap.size, 3, none⟩ = some (.int .i64 ba) := by simp [World.cell?, X2]
          have k4 : w2.cell? ⟨w.heap.size, 4, none⟩ = some (.int .i64 rg) := by simp [World.cell?, X2]
          have k5 : w2.cell? ⟨w.heap.size, 5, none⟩ = some (.int .i64 sl) := by simp [World.cell?, X2]
          have k6 : w2.cell? ⟨w.heap.size, 6, none⟩ = some (.slice x1 os.length p1) := by simp [World.cell?, X2]
          have k7 : w2.cell? ⟨w.heap.size, 7, none⟩ = some (.slice x2 ls.length p2) := by simp [World.cell?, X2]
          clear hb X2
          go_wp2_with fail
          refine (F1.out _).mono ?_
          rintro e _ ⟨rfl, rfl⟩
          go_wp2_with fail
          refine (H3.out _).mono ?_
          rintro e w3 ⟨rfl, hb⟩
          have B3 : Hid (Below w.heap.size w w3) := bl_tr B2.out hb
          have X3 := (hb.block w.heap.size (blk_in XX2.out)).trans XX2.out
          clear k0 k1 k2 k3 k4 k5 k6 k7
          have XX3 : Hid _ := X3
          have k0 : w3.cell? ⟨w.heap.size, 0, none⟩ = some (.string nm) := by simp [World.cell?, X3]
          have k1 : w3.cell? ⟨w.heap.size, 1, none⟩ = some (.int .i64 wh) := by simp [World.cell?, X3]
          have k2 : w3.cell? ⟨w.heap.size, 2, none⟩ = some (.int .i64 ce) := by simp [World.cell?, X3]
          have k3 : w3.cell? ⟨w.heap.size, 3, none⟩ = some (.int .i64 ba) := by simp [World.cell?, X3]
          have k4 : w3.cell? ⟨w.heap.size, 4, none⟩ = some (.int .i64 rg) := by simp [World.cell?, X3]
          have k5 : w3.cell? ⟨w.heap.size, 5, none⟩ = some (.int .i64 sl) := by simp [World.cell?, X3]
          have k6 : w3.cell? ⟨w.heap.size, 6, none⟩ = some (.slice x1 os.length p1) := by simp [World.cell?, X3]
          have k7 : w3.cell? ⟨w.heap.size, 7, none⟩ = some (.slice x2 ls.length p2) := by simp [World.cell?, X3]
          clear hb X3
          go_wp2_with fail
          refine (H4.out _).mono ?_
          rintro e w4 ⟨rfl, hb⟩
          have B4 : Hid (Below w.heap.size w w4) := bl_tr B3.out hb
          have X4 := (hb.block w.heap.size (blk_in XX3.out)).trans XX3.out
          clear k0 k1 k2 k3 k4 k5 k6 k7
          have XX4 : Hid _ := X4
          have k0 : w4.cell? ⟨w.heap.size, 0, none⟩ = some (.string nm) := by simp [World.cell?, X4]
          have k1 : w4.cell? ⟨w.heap.size, 1, none⟩ = some (.int .i64 wh) := by simp [World.cell?, X4]
          have k2 : w4.cell? ⟨w.heap.size, 2, none⟩ = some (.int .i64 ce) := by simp [World.cell?, X4]
          have k3 : w4.cell? ⟨w.heap.size, 3, none⟩ = some (.int .i64 ba) := by simp [World.cell?, X4]
          have k4 : w4.cell? ⟨w.heap.size, 4, none⟩ = some (.int .i64 rg) := by simp [World.cell?, X4]
          have k5 : w4.cell? ⟨w.heap.size, 5, none⟩ = some (.int .i64 sl) := by simp [World.cell?, X4]
          have k6 : w4.cell? ⟨w.heap.size, 6, none⟩ = some (.slice x1 os.length p1) := by simp [World.cell?, X4]
          have k7 : w4.cell? ⟨w.heap.size, 7, none⟩ = some (.slice x2 ls.length p2) := by simp [World.cell?, X4]
          clear hb X4
          go_wp2
          go_ret
          exact ⟨by simp, B4.out⟩
    · have n2 : (ba == -1) = false := by simp [q2]
      rw [decide_eq_false q2]
      clear q2
      cases r5
      · go_enter Tryz.func51, Tryz.ntmps51
        go_wp2_with fail
        refine (H1.out _).mono ?_
        rintro e w1 ⟨rfl, hb⟩
        have B1 : Hid (Below w.heap.size w w1) := bl_tr (by go_grown) hb
        have X1 := (hb.block w.heap.size (by simp)).trans (heap_alloc_last w _)
        have XX1 : Hid _ := X1
        have k0 : w1.cell? ⟨w.heap.size, 0, none⟩ = some (.string nm) := by simp [World.cell?, X1]
        have k1 : w1.cell? ⟨w.heap.size, 1, none⟩ = some (.int .i64 wh) := by simp [World.cell?, X1]
        have k2 : w1.cell? ⟨w.heap.size, 2, none⟩ = some (.int .i64 ce) := by simp [World.cell?, X1]
        have k3 : w1.cell? ⟨w.heap.size, 3, none⟩ = some (.int .i64 ba) := by simp [World.cell?, X1]
        have k4 : w1.cell? ⟨w.heap.size, 4, none⟩ = some (.int .i64 rg) := by simp [World.cell?, X1]
        have k5 : w1.cell? ⟨w.heap.size, 5, none⟩ = some (.int .i64 sl) := by simp [World.cell?, X1]
        have k6 : w1.cell? ⟨w.heap.size, 6, none⟩ = some (.slice x1 os.length p1) := by simp [World.cell?, X1]
        have k7 : w1.cell? ⟨w.heap.size, 7, none⟩ = some (.slice x2 ls.length p2) := by simp [World.cell?, X1]
        clear hb X1
        go_wp2_with fail
        refine (H2.out _).mono ?_
        rintro e w2 ⟨rfl, hb⟩
        have B2 : Hid (Below w.heap.size w w2) := bl_tr B1.out hb
        have X2 := (hb.block w.heap.size (blk_in XX1.out)).trans XX1.out
        clear k0 k1 k2 k3 k4 k5 k6 k7
        have XX2 : Hid _ := X2
        have k0 : w2.cell? ⟨w.heap.size, 0, none⟩ = some (.string nm) := by simp [World.cell?, X2]
        have k1 : w2.cell? ⟨w.heap.size, 1, none⟩ = some (.int .i64 wh) := by simp [World.cell?, X2]
        have k2 : w2.cell? ⟨w.heap.size, 2, none⟩ = some (.int .i64 ce) := by simp [World.cell?, X2]
        have k3 : w2.cell? ⟨w.heap.size, 3, none⟩ = some (.int .i64 ba) := by simp [World.cell?, X2]
        have k4 : w2.cell? ⟨w.heap.size, 4, none⟩ = some (.int .i64 rg) := by simp [World.cell?, X2]
        have k5 : w2.cell? ⟨w.heap.size, 5, none⟩ = some (.int .i64 sl) := by simp [World.cell?, X2]
        have k6 : w2.cell? ⟨w.heap.size, 6, none⟩ = some (.slice x1 os.length p1) := by simp [World.cell?, X2]
        have k7 : w2.cell? ⟨w.heap.size, 7, none⟩ = some (.slice x2 ls.length p2) := by simp [World.cell?, X2]
        clear hb X2
        go_wp2_with fail
        refine (F1.out _).mono ?_
        rintro e _ ⟨rfl, rfl⟩
        go_wp2
        go_ret
        exact ⟨by simp, B2.out⟩
      cases r3
      · go_enter Tryz.func51, Tryz.ntmps51
        go_wp2_with fail
        refine (H1.out _).mono ?_
        rintro e w1 ⟨rfl, hb⟩
        have B1 : Hid (Below w.heap.size w w1) := bl_tr (by go_grown) hb
        have X1 := (hb.block w.heap.size (by simp)).trans (heap_alloc_last w _)
        have XX1 : Hid _ := X1
        have k0 : w1.cell? ⟨w.heap.size, 0, none⟩ = some (.string nm) := by simp [World.cell?, X1]
        have k1 : w1.cell? ⟨w.heap.size, 1, none⟩ = some (.int .i64 wh) := by simp [World.cell?, X1]
        have k2 : w1.cell? ⟨w.heap.size, 2, none⟩ = some (.int .i64 ce) := by simp [World.cell?, X1]
        have k3 : w1.cell? ⟨w.heap.size, 3, none⟩ = some (.int .i64 ba) := by simp [World.cell?, X1]
        have k4 : w1.cell? ⟨w.heap.size, 4, none⟩ = some (.int .i64 rg) := by simp [World.cell?, X1]
        have k5 : w1.cell? ⟨w.heap.size, 5, none⟩ = some (.int .i64 sl) := by simp [World.cell?, X1]
        have k6 : w1.cell? ⟨w.heap.size, 6, none⟩ = some (.slice x1 os.length p1) := by simp [World.cell?, X1]
        have k7 : w1.cell? ⟨w.heap.size, 7, none⟩ = some (.slice x2 ls.length p2) := by simp [World.cell?, X1]
        clear hb X1
        go_wp2_with fail
        refine (H2.out _).mono ?_
        rintro e w2 ⟨rfl, hb⟩
        have B2 : Hid (Below w.heap.size w w2) := bl_tr B1.out hb
        have X2 := (hb.block w.heap.size (blk_in XX1.out)).trans XX1.out
        clear k0 k1 k2 k3 k4 k5 k6 k7
        have XX2 : Hid _ := X2
        have k0 : w2.cell? ⟨w.heap.size, 0, none⟩ = some (.string nm) := by simp [World.cell?, X2]
        have k1 : w2.cell? ⟨w.heap.size, 1, none⟩ = some (.int .i64 wh) := by simp [World.cell?, X2]
        have k2 : w2.cell? ⟨w.heap.size, 2, none⟩ = some (.int .i64 ce) := by simp [World.cell?, X2]
        have k3 : w2.cell? ⟨w.heap.size, 3, none⟩ = some (.int .i64 ba) := by simp [World.cell?, X2]
        have k4 : w2.cell? ⟨w.heap.size, 4, none⟩ = some (.int .i64 rg) := by simp [World.cell?, X2]
        have k5 : w2.cell? ⟨w.heap.size, 5, none⟩ = some (.int .i64 sl) := by simp [World.cell?, X2]
        have k6 : w2.cell? ⟨w.heap.size, 6, none⟩ = some (.slice x1 os.length p1) := by simp [World.cell?, X2]
        have k7 : w2.cell? ⟨w.heap.size, 7, none⟩ = some (.slice x2 ls.length p2) := by simp [World.cell?, X2]
        clear hb X2
        go_wp2_with fail
        refine (F1.out _).mono ?_
        rintro e _ ⟨rfl, rfl⟩
        go_wp2_with fail
        refine (H3.out _).mono ?_
        rintro e w3 ⟨rfl, hb⟩
        have B3 : Hid (Below w.heap.size w w3) := bl_tr B2.out hb
        have X3 := (hb.block w.heap.size (blk_in XX2.out)).trans XX2.out
        clear k0 k1 k2 k3 k4 k5 k6 k7
        have XX3 : Hid _ := X3
        have k0 : w3.cell? ⟨w.heap.size, 0, none⟩ = some (.string nm) := by simp [World.cell?, X3]
        have k1 : w3.cell? ⟨w.heap.size, 1, none⟩ = some (.int .i64 wh) := by simp [World.cell?, X3]
        have k2 : w3.cell? ⟨w.heap.size, 2, none⟩ = some (.int .i64 ce) := by simp [World.cell?, X3]
        have k3 : w3.cell? ⟨w.heap.size, 3, none⟩ = some (.int .i64 ba) := by simp [World.cell?, X3]
        have k4 : w3.cell? ⟨w.heap.size, 4, none⟩ = some (.int .i64 rg) := by simp [World.cell?, X3]
        have k5 : w3.cell? ⟨w.heap.size, 5, none⟩ = some (.int .i64 sl) := by simp [World.cell?, X3]
        have k6 : w3.cell? ⟨w.heap.size, 6, none⟩ = some (.slice x1 os.length p1) := by simp [World.cell?, X3]
        have k7 : w3.cell? ⟨w.heap.size, 7, none⟩ = some (.slice x2 ls.length p2) := by simp [World.cell?, X3]
        clear hb X3
        go_wp2
        go_ret
        exact ⟨by simp, B3.out⟩
      cases r4
      · go_enter Tryz.func51, Tryz.ntmps51
        go_wp2_with fail
        refine (H1.out _).mono ?_
        rintro e w1 ⟨rfl, hb⟩
        have B1 : Hid (Below w.heap.size w w1) := bl_tr (by go_grown) hb
        have X1 := (hb.block w.heap.size (by simp)).trans (heap_alloc_last w _)
        have XX1 : Hid _ := X1
        have k0 : w1.cell? ⟨w.heap.size, 0, none⟩ = some (.string nm) := by simp [World.cell?, X1]
        have k1 : w1.cell? ⟨w.heap.size, 1, none⟩ = some (.int .i64 wh) := by simp [World.cell?, X1]
        have k2 : w1.cell? ⟨w.heap.size, 2, none⟩ = some (.int .i64 ce) := by simp [World.cell?, X1]
        have k3 : w1.cell? ⟨w.heap.size, 3, none⟩ = some (.int .i64 ba) := by simp [World.cell?, X1]
        have k4 : w1.cell? ⟨w.heap.size, 4, none⟩ = some (.int .i64 rg) := by simp [World.cell?, X1]
        have k5 : w1.cell? ⟨w.heap.size, 5, none⟩ = some (.int .i64 sl) := by simp [World.cell?, X1]
        have k6 : w1.cell? ⟨w.heap.size, 6, none⟩ = some (.slice x1 os.length p1) := by simp [World.cell?, X1]
        have k7 : w1.cell? ⟨w.heap.size, 7, none⟩ = some (.slice x2 ls.length p2) := by simp [World.cell?, X1]
        clear hb X1
        go_wp2_with fail
        refine (H2.out _).mono ?_
        rintro e w2 ⟨rfl, hb⟩
        have B2 : Hid (Below w.heap.size w w2) := bl_tr B1.out hb
        have X2 := (hb.block w.heap.size (blk_in XX1.out)).trans XX1.out
        clear k0 k1 k2 k3 k4 k5 k6 k7
        have XX2 : Hid _ := X2
        have k0 : w2.cell? ⟨w.heap.size, 0, none⟩ = some (.string nm) := by simp [World.cell?, X2]
        have k1 : w2.cell? ⟨w.heap.size, 1, none⟩ = some (.int .i64 wh) := by simp [World.cell?, X2]
        have k2 : w2.cell? ⟨w.heap.size, 2, none⟩ = some (.int .i64 ce) := by simp [World.cell?, X2]
        have k3 : w2.cell? ⟨w.heap.size, 3, none⟩ = some (.int .i64 ba) := by simp [World.cell?, X2]
        have k4 : w2.cell? ⟨w.heap.size, 4, none⟩ = some (.int .i64 rg) := by simp [World.cell?, X2]
        have k5 : w2.cell? ⟨w.heap.size, 5, none⟩ = some (.int .i64 sl) := by simp [World.cell?, X2]
        have k6 : w2.cell? ⟨w.heap.size, 6, none⟩ = some (.slice x1 os.length p1) := by simp [World.cell?, X2]
        have k7 : w2.cell? ⟨w.heap.size, 7, none⟩ = some (.slice x2 ls.length p2) := by simp [World.cell?, X2]
        clear hb X2
        go_wp2_with fail
        refine (F1.out _).mono ?_
        rintro e _ ⟨rfl, rfl⟩
        go_wp2_with fail
        refine (H3.out _).mono ?_
        rintro e w3 ⟨rfl, hb⟩
        have B3 : Hid (Below w.heap.size w w3) := bl_tr B2.out hb
        have X3 := (hb.block w.heap.size (blk_in XX2.out)).trans XX2.out
        clear k0 k1 k2 k3 k4 k5 k6 k7
        have XX3 : Hid _ := X3
        have k0 : w3.cell? ⟨w.heap.size, 0, none⟩ = some (.string nm) := by simp [World.cell?, X3]
        have k1 : w3.cell? ⟨w.heap.size, 1, none⟩ = some (.int .i64 wh) := by simp [World.cell?, X3]
        have k2 : w3.cell? ⟨w.heap.size, 2, none⟩ = some (.int .i64 ce) := by simp [World.cell?, X3]
        have k3 : w3.cell? ⟨w.heap.size, 3, none⟩ = some (.int .i64 ba) := by simp [World.cell?, X3]
        have k4 : w3.cell? ⟨w.heap.size, 4, none⟩ = some (.int .i64 rg) := by simp [World.cell?, X3]
        have k5 : w3.cell? ⟨w.heap.size, 5, none⟩ = some (.int .i64 sl) := by simp [World.cell?, X3]
        have k6 : w3.cell? ⟨w.heap.size, 6, none⟩ = some (.slice x1 os.length p1) := by simp [World.cell?, X3]
        have k7 : w3.cell? ⟨w.heap.size, 7, none⟩ = some (.slice x2 ls.length p2) := by simp [World.cell?, X3]
        clear hb X3
        go_wp2_with fail
        refine (H4.out _).mono ?_
        rintro e w4 ⟨rfl, hb⟩
        have B4 : Hid (Below w.heap.size w w4) := bl_tr B3.out hb
        have X4 := (hb.block w.heap.size (blk_in XX3.out)).trans XX3.out
        clear k0 k1 k2 k3 k4 k5 k6 k7
        have XX4 : Hid _ := X4
        have k0 : w4.cell? ⟨w.heap.size, 0, none⟩ = some (.string nm) := by simp [World.cell?, X4]
        have k1 : w4.cell? ⟨w.heap.size, 1, none⟩ = some (.int .i64 wh) := by simp [World.cell?, X4]
        have k2 : w4.cell? ⟨w.heap.size, 2, none⟩ = some (.int .i64 ce) := by simp [World.cell?, X4]
        have k3 : w4.cell? ⟨w.heap.size, 3, none⟩ = some (.int .i64 ba) := by simp [World.cell?, X4]
        have k4 : w4.cell? ⟨w.heap.size, 4, none⟩ = some (.int .i64 rg) := by simp [World.cell?, X4]
        have k5 : w4.cell? ⟨w.heap.size, 5, none⟩ = some (.int .i64 sl) := by simp [World.cell?, X4]
        have k6 : w4.cell? ⟨w.heap.size, 6, none⟩ = some (.slice x1 os.length p1) := by simp [World.cell?, X4]
        have k7 : w4.cell? ⟨w.heap.size, 7, none⟩ = some (.slice x2 ls.length p2) := by simp [World.cell?, X4]
        clear hb X4
        go_wp2
        go_ret
        exact ⟨by simp, B4.out⟩
      · go_enter Tryz.func51, Tryz.ntmps51
        go_wp2_with fail
        refine (H1.out _).mono ?_
        rintro e w1 ⟨rfl, hb⟩
        have B1 : Hid (Below w.heap.size w w1) := bl_tr (by go_grown) hb
        have X1 := (hb.block w.heap.size (by simp)).trans (heap_alloc_last w _)
        have XX1 : Hid _ := X1
        have k0 : w1.cell? ⟨w.heap.size, 0, none⟩ = some (.string nm) := by simp [World.cell?, X1]
        have k1 : w1.cell? ⟨w.heap.size, 1, none⟩ = some (.int .i64 wh) := by simp [World.cell?, X1]
        have k2 : w1.cell? ⟨w.heap.size, 2, none⟩ = some (.int .i64 ce) := by simp [World.cell?, X1]
        have k3 : w1.cell? ⟨w.heap.size, 3, none⟩ = some (.int .i64 ba) := by simp [World.cell?, X1]
        have k4 : w1.cell? ⟨w.heap.size, 4, none⟩ = some (.int .i64 rg) := by simp [World.cell?, X1]
        have k5 : w1.cell? ⟨w.heap.size, 5, none⟩ = some (.int .i64 sl) := by simp [World.cell?, X1]
        have k6 : w1.cell? ⟨w.heap.size, 6, none⟩ = some (.slice x1 os.length p1) := by simp [World.cell?, X1]
        have k7 : w1.cell? ⟨w.heap.size, 7, none⟩ = some (.slice x2 ls.length p2) := by simp [World.cell?, X1]
        clear hb X1
        go_wp2_with fail
        refine (H2.out _).mono ?_
        rintro e w2 ⟨rfl, hb⟩
        have B2 : Hid (Below w.heap.size w w2) := bl_tr B1.out hb
        have X2 := (hb.block w.heap.size (blk_in XX1.out)).trans XX1.out
        clear k0 k1 k2 k3 k4 k5 k6 k7
        have XX2 : Hid _ := X2
        have k0 : w2.cell? ⟨w.heap.size, 0, none⟩ = some (.string nm) := by simp [World.cell?, X2]
        have k1 : w2.cell? ⟨w.heap.size, 1, none⟩ = some (.int .i64 wh) := by simp [World.cell?, X2]
        have k2 : w2.cell? ⟨w.heap.size, 2, none⟩ = some (.int .i64 ce) := by simp [World.cell?, X2]
        have k3 : w2.cell? ⟨w.heap.size, 3, none⟩ = some (.int .i64 ba) := by simp [World.cell?, X2]
        have k4 : w2.cell? ⟨w.heap.size, 4, none⟩ = some (.int .i64 rg) := by simp [World.cell?, X2]
        have k5 : w2.cell? ⟨w.heap.size, 5, none⟩ = some (.int .i64 sl) := by simp [World.cell?, X2]
        have k6 : w2.cell? ⟨w.heap.size, 6, none⟩ = some (.slice x1 os.length p1) := by simp [World.cell?, X2]
        have k7 : w2.cell? ⟨w.heap.size, 7, none⟩ = some (.slice x2 ls.length p2) := by simp [World.cell?, X2]
        clear hb X2
        go_wp2_with fail
        refine (F1.out _).mono ?_
        rintro e _ ⟨rfl, rfl⟩
        go_wp2_with fail
        refine (H3.out _).mono ?_
        rintro e w3 ⟨rfl, hb⟩
        have B3 : Hid (Below w.heap.size w w3) := bl_tr B2.out hb
        have X3 := (hb.block w.heap.size (blk_in XX2.out)).trans XX2.out
        clear k0 k1 k2 k3 k4 k5 k6 k7
        have XX3 : Hid _ := X3
        have k0 : w3.cell? ⟨w.heap.size, 0, none⟩ = some (.string nm) := by simp [World.cell?, X3]
        have k1 : w3.cell? ⟨w.heap.size, 1, none⟩ = some (.int .i64 wh) := by simp [World.cell?, X3]
        have k2 : w3.cell? ⟨w.heap.size, 2, none⟩ = some (.int .i64 ce) := by simp [World.cell?, X3]
        have k3 : w3.cell? ⟨w.heap.size, 3, none⟩ = some (.int .i64 ba) := by simp [World.cell?, X3]
        have k4 : w3.cell? ⟨w.heap.size, 4, none⟩ = some (.int .i64 rg) := by simp [World.cell?, X3]
        have k5 : w3.cell? ⟨w.heap.size, 5, none⟩ = some (.int .i64 sl) := by simp [World.cell?, X3]
        have k6 : w3.cell? ⟨w.heap.size, 6, none⟩ = some (.slice x1 os.length p1) := by simp [World.cell?, X3]
        have k7 : w3.cell? ⟨w.heap.size, 7, none⟩ = some (.slice x2 ls.length p2) := by simp [World.cell?, X3]
        clear hb X3
        go_wp2_with fail
        refine (H4.out _).mono ?_
        rintro e w4 ⟨rfl, hb⟩
        have B4 : Hid (Below w.heap.size w w4) := bl_tr B3.out hb
        have X4 := (hb.block w.heap.size (blk_in XX3.out)).trans XX3.out
        clear k0 k1 k2 k3 k4 k5 k6 k7
        have XX4 : Hid _ := X4
        have k0 : w4.cell? ⟨w.heap.size, 0, none⟩ = some (.string nm) := by simp [World.cell?, X4]
        have k1 : w4.cell? ⟨w.heap.size, 1, none⟩ = some (.int .i64 wh) := by simp [World.cell?, X4]
        have k2 : w4.cell? ⟨w.heap.size, 2, none⟩ = some (.int .i64 ce) := by simp [World.cell?, X4]
        have k3 : w4.cell? ⟨w.heap.size, 3, none⟩ = some (.int .i64 ba) := by simp [World.cell?, X4]
        have k4 : w4.cell? ⟨w.heap.size, 4, none⟩ = some (.int .i64 rg) := by simp [World.cell?, X4]
        have k5 : w4.cell? ⟨w.heap.size, 5, none⟩ = some (.int .i64 sl) := by simp [World.cell?, X4]
        have k6 : w4.cell? ⟨w.heap.size, 6, none⟩ = some (.slice x1 os.length p1) := by simp [World.cell?, X4]
        have k7 : w4.cell? ⟨w.heap.size, 7, none⟩ = some (.slice x2 ls.length p2) := by simp [World.cell?, X4]
        clear hb X4
        go_wp2
        go_ret
        exact ⟨by simp, B4.out⟩
  · have n1 : (wh == 1) = false := by simp [q1]
    rw [decide_eq_false q1]
    clear q1
    by_cases q2 : ba = -1
    · have n2 : (ba == -1) = true := by simp [q2]
      rw [decide_eq_true q2]
      clear q2
      cases r3
      · go_enter Tryz.func51, Tryz.ntmps51
        go_wp2_with fail
        refine (H1.out _).mono ?_
        rintro e w1 ⟨rfl, hb⟩
        have B1 : Hid (Below w.heap.size w w1) := bl_tr (by go_grown) hb
        have X1 := (hb.block w.heap.size (by simp)).trans (heap_alloc_last w _)
        have XX1 : Hid _ := X1
        have k0 : w1.cell? ⟨w.heap.size, 0, none⟩ = some (.string nm) := by simp [World.cell?, X1]
        have k1 : w1.cell? ⟨w.heap.size, 1, none⟩ = some (.int .i64 wh) := by simp [World.cell?, X1]
        have k2 : w1.cell? ⟨w.heap.size, 2, none⟩ = some (.int .i64 ce) := by simp [World.cell?, X1]
        have k3 : w1.cell? ⟨w.heap.size, 3, none⟩ = some (.int .i64 ba) := by simp [World.cell?, X1]
        have k4 : w1.cell? ⟨w.heap.size, 4, none⟩ = some (.int .i64 rg) := by simp [World.cell?, X1]
        have k5 : w1.cell? ⟨w.heap.size, 5, none⟩ = some (.int .i64 sl) := by simp [World.cell?, X1]
        have k6 : w1.cell? ⟨w.heap.size, 6, none⟩ = some (.slice x1 os.length p1) := by simp [World.cell?, X1]
        have k7 : w1.cell? ⟨w.heap.size, 7, none⟩ = some (.slice x2 ls.length p2) := by simp [World.cell?, X1]
        clear hb X1
        go_wp2_with fail
        refine (H2.out _).mono ?_
        rintro e w2 ⟨rfl, hb⟩
        have B2 : Hid (Below w.heap.size w w2) := bl_tr B1.out hb
        have X2 := (hb.block w.heap.size (blk_in XX1.out)).trans XX1.out
        clear k0 k1 k2 k3 k4 k5 k6 k7
        have XX2 : Hid _ := X2
        have k0 : w2.cell? ⟨w.heap.size, 0, none⟩ = some (.string nm) := by simp [World.cell?, X2]
        have k1 : w2.cell? ⟨w.heap.size, 1, none⟩ = some (.int .i64 wh) := by simp [World.cell?, X2]
        have k2 : w2.cell? ⟨w.heap.size, 2, none⟩ = some (.int .i64 ce) := by simp [World.cell?, X2]
        have k3 : w2.cell? ⟨w.heap.size, 3, none⟩ = some (.int .i64 ba) := by simp [World.cell?, X2]
        have k4 : w2.cell? ⟨w.heap.size, 4, none⟩ = some (.int .i64 rg) := by simp [World.cell?, X2]
        have k5 : w2.cell? ⟨w.heap.size, 5, none⟩ = some (.int .i64 sl) := by simp [World.cell?, X2]
        have k6 : w2.cell? ⟨w.heap.size, 6, none⟩ = some (.slice x1 os.length p1) := by simp [World.cell?, X2]
        have k7 : w2.cell? ⟨w.heap.size, 7, none⟩ = some (.slice x2 ls.length p2) := by simp [World.cell?, X2]
        clear hb X2
        go_wp2_with fail
        refine (H3.out _).mono ?_
        rintro e w3 ⟨rfl, hb⟩
        have B3 : Hid (Below w.heap.size w w3) := bl_tr B2.out hb
        have X3 := (hb.block w.heap.size (blk_in XX2.out)).trans XX2.out
        clear k0 k1 k2 k3 k4 k5 k6 k7
        have XX3 : Hid _ := X3
        have k0 : w3.cell? ⟨w.heap.size, 0, none⟩ = some (.string nm) := by simp [World.cell?, X3]
        have k1 : w3.cell? ⟨w.heap.size, 1, none⟩ = some (.int .i64 wh) := by simp [World.cell?, X3]
        have k2 : w3.cell? ⟨w.heap.size, 2, none⟩ = some (.int .i64 ce) := by simp [World.cell?, X3]
        have k3 : w3.cell? ⟨w.heap.size, 3, none⟩ = some (.int .i64 ba) := by simp [World.cell?, X3]
        have k4 : w3.cell? ⟨w.heap.size, 4, none⟩ = some (.int .i64 rg) := by simp [World.cell?, X3]
        have k5 : w3.cell? ⟨w.heap.size, 5, none⟩ = some (.int .i64 sl) := by simp [World.cell?, X3]
        have k6 : w3.cell? ⟨w.heap.size, 6, none⟩ = some (.slice x1 os.length p1) := by simp [World.cell?, X3]
        have k7 : w3.cell? ⟨w.heap.size, 7, none⟩ = some (.slice x2 ls.length p2) := by simp [World.cell?, X3]
        clear hb X3
        go_wp2
        go_ret
        exact ⟨by simp, B3.out⟩
      cases r4
      · go_enter Tryz.func51, Tryz.ntmps51
        go_wp2_with fail
        refine (H1.out _).mono ?_
        rintro e w1 ⟨rfl, hb⟩
        have B1 : Hid (Below w.heap.size w w1) := bl_tr (by go_grown) hb
        have X1 := (hb.block w.heap.size (by simp)).trans (heap_alloc_last w _)
        have XX1 : Hid _ := X1
        have k0 : w1.cell? ⟨w.heap.size, 0, none⟩ = some (.string nm) := by simp [World.cell?, X1]
        have k1 : w1.cell? ⟨w.heap.size, 1, none⟩ = some (.int .i64 wh) := by simp [World.cell?, X1]
        have k2 : w1.cell? ⟨w.heap.size, 2, none⟩ = some (.int .i64 ce) := by simp [World.cell?, X1]
        have k3 : w1.cell? ⟨w.heap.size, 3, none⟩ = some (.int .i64 ba) := by simp [World.cell?, X1]
        have k4 : w1.cell? ⟨w.heap.size, 4, none⟩ = some (.int .i64 rg) := by simp [World.cell?, X1]
        have k5 : w1.cell? ⟨w.heap.size, 5, none⟩ = some (.int .i64 sl) := by simp [World.cell?, X1]
        have k6 : w1.cell? ⟨w.heap.size, 6, none⟩ = some (.slice x1 os.length p1) := by simp [World.cell?, X1]
        have k7 : w1.cell? ⟨w.heap.size, 7, none⟩ = some (.slice x2 ls.length p2) := by simp [World.cell?, X1]
        clear hb X1
        go_wp2_with fail
        refine (H2.out _).mono ?_
        rintro e w2 ⟨rfl, hb⟩
        have B2 : Hid (Below w.heap.size w w2) := bl_tr B1.out hb
        have X2 := (hb.block w.heap.size (blk_in XX1.out)).trans XX1.out
        clear k0 k1 k2 k3 k4 k5 k6 k7
        have XX2 : Hid _ := X2
        have k0 : w2.cell? ⟨w.heap.size, 0, none⟩ = some (.string nm) := by simp [World.cell?, X2]
        have k1 : w2.cell? ⟨w.heap.size, 1, none⟩ = some (.int .i64 wh) := by simp [World.cell?, X2]
        have k2 : w2.cell? ⟨w.heap.size, 2, none⟩ = some (.int .i64 ce) := by simp [World.cell?, X2]
        have k3 : w2.cell? ⟨w.heap.size, 3, none⟩ = some (.int .i64 ba) := by simp [World.cell?, X2]
        have k4 : w2.cell? ⟨w.heap.size, 4, none⟩ = some (.int .i64 rg) := by simp [World.cell?, X2]
        have k5 : w2.cell? ⟨w.heap.size, 5, none⟩ = some (.int .i64 sl) := by simp [World.cell?, X2]
        have k6 : w2.cell? ⟨w.heap.size, 6, none⟩ = some (.slice x1 os.length p1) := by simp [World.cell?, X2]
        have k7 : w2.cell? ⟨w.heap.size, 7, none⟩ = some (.slice x2 ls.length p2) := by simp [World.cell?, X2]
        clear hb X2
        go_wp2_with fail
        refine (H3.out _).mono ?_
        rintro e w3 ⟨rfl, hb⟩
        have B3 : Hid (Below w.heap.size w w3) := bl_tr B2.out hb
        have X3 := (hb.block w.heap.size (blk_in XX2.out)).trans XX2.out
        clear k0 k1 k2 k3 k4 k5 k6 k7
        have XX3 : Hid _ := X3
        have k0 : w3.cell? ⟨w.heap.size, 0, none⟩ = some (.string nm) := by simp [World.cell?, X3]
        have k1 : w3.cell? ⟨w.heap.size, 1, none⟩ = some (.int .i64 wh) := by simp [World.cell?, X3]
        have k2 : w3.cell? ⟨w.heap.size, 2, none⟩ = some (.int .i64 ce) := by simp [World.cell?, X3]
        have k3 : w3.cell? ⟨w.heap.size, 3, none⟩ = some (.int .i64 ba) := by simp [World.cell?, X3]
        have k4 : w3.cell? ⟨w.heap.size, 4, none⟩ = some (.int .i64 rg) := by simp [World.cell?, X3]
        have k5 : w3.cell? ⟨w.heap.size, 5, none⟩ = some (.int .i64 sl) := by simp [World.cell?, X3]
        have k6 : w3.cell? ⟨w.heap.size, 6, none⟩ = some (.slice x1 os.length p1) := by simp [World.cell?, X3]
        have k7 : w3.cell? ⟨w.heap.size, 7, none⟩ = some (.slice x2 ls.length p2) := by simp [World.cell?, X3]
        clear hb X3
        go_wp2_with fail
        refine (H4.out _).mono ?_
        rintro e w4 ⟨rfl, hb⟩
        have B4 : Hid (Below w.heap.size w w4) := bl_tr B3.out hb
        have X4 := (hb.block w.heap.size (blk_in XX3.out)).trans XX3.out
        clear k0 k1 k2 k3 k4 k5 k6 k7
        have XX4 : Hid _ := X4
        have k0 : w4.cell? ⟨w.heap.size, 0, none⟩ = some (.string nm) := by simp [World.cell?, X4]
        have k1 : w4.cell? ⟨w.heap.size, 1, none⟩ = some (.int .i64 wh) := by simp [World.cell?, X4]
        have k2 : w4.cell? ⟨w.heap.size, 2, none⟩ = some (.int .i64 ce) := by simp [World.cell?, X4]
        have k3 : w4.cell? ⟨w.heap.size, 3, none⟩ = some (.int .i64 ba) := by simp [World.cell?, X4]
        have k4 : w4.cell? ⟨w.heap.size, 4, none⟩ = some (.int .i64 rg) := by simp [World.cell?, X4]
        have k5 : w4.cell? ⟨w.heap.size, 5, none⟩ = some (.int .i64 sl) := by simp [World.cell?, X4]
        have k6 : w4.cell? ⟨w.heap.size, 6, none⟩ = some (.slice x1 os.length p1) := by simp [World.cell?, X4]
        have k7 : w4.cell? ⟨w.heap.size, 7, none⟩ = some (.slice x2 ls.length p2) := by simp [World.cell?, X4]
        clear hb X4
        go_wp2
        go_ret
        exact ⟨by simp, B4.out⟩
      · go_enter Tryz.func51, Tryz.ntmps51
        go_wp2_with fail
        refine (H1.out _).mono ?_
        rintro e w1 ⟨rfl, hb⟩
        have B1 : Hid (Below w.heap.size w w1) := bl_tr (by go_grown) hb
        have X1 := (hb.block w.heap.size (by simp)).trans (heap_alloc_last w _)
        have XX1 : Hid _ := X1
        have k0 : w1.cell? ⟨w.heap.size, 0, none⟩ = some (.string nm) := by simp [World.cell?, X1]
        have k1 : w1.cell? ⟨w.heap.size, 1, none⟩ = some (.int .i64 wh) := by simp [World.cell?, X1]
        have k2 : w1.cell? ⟨w.heap.size, 2, none⟩ = some (.int .i64 ce) := by simp [World.cell?, X1]
        have k3 : w1.cell? ⟨w.heap.size, 3, none⟩ = some (.int .i64 ba) := by simp [World.cell?, X1]
        have k4 : w1.cell? ⟨w.heap.size, 4, none⟩ = some (.int .i64 rg) := by simp [World.cell?, X1]
        have k5 : w1.cell? ⟨w.heap.size, 5, none⟩ = some (.int .i64 sl) := by simp [World.cell?, X1]
        have k6 : w1.cell? ⟨w.heap.size, 6, none⟩ = some (.slice x1 os.length p1) := by simp [World.cell?, X1]
        have k7 : w1.cell? ⟨w.heap.size, 7, none⟩ = some (.slice x2 ls.length p2) := by simp [World.cell?, X1]
        clear hb X1
        go_wp2_with fail
        refine (H2.out _).mono ?_
        rintro e w2 ⟨rfl, hb⟩
        have B2 : Hid (Below w.heap.size w w2) := bl_tr B1.out hb
        have X2 := (hb.block w.heap.size (blk_in XX1.out)).trans XX1.out
        clear k0 k1 k2 k3 k4 k5 k6 k7
        have XX2 : Hid _ := X2
        have k0 : w2.cell? ⟨w.heap.size, 0, none⟩ = some (.string nm) := by simp [World.cell?, X2]
        have k1 : w2.cell? ⟨w.heap.size, 1, none⟩ = some (.int .i64 wh) := by simp [World.cell?, X2]
        have k2 : w2.cell? ⟨w.heap.size, 2, none⟩ = some (.int .i64 ce) := by simp [World.cell?, X2]
        have k3 : w2.cell? ⟨w.heap.size, 3, none⟩ = some (.int .i64 ba) := by simp [World.cell?, X2]
        have k4 : w2.cell? ⟨w.heap.size, 4, none⟩ = some (.int .i64 rg) := by simp [World.cell?, X2]
        have k5 : w2.cell? ⟨w.heap.size, 5, none⟩ = some (.int .i64 sl) := by simp [World.cell?, X2]
        have k6 : w2.cell? ⟨w.heap.size, 6, none⟩ = some (.slice x1 os.length p1) := by simp [World.cell?, X2]
        have k7 : w2.cell? ⟨w.heap.size, 7, none⟩ = some (.slice x2 ls.length p2) := by simp [World.cell?, X2]
        clear hb X2
        go_wp2_with fail
        refine (H3.out _).mono ?_
        rintro e w3 ⟨rfl, hb⟩
        have B3 : Hid (Below w.heap.size w w3) := bl_tr B2.out hb
        have X3 := (hb.block w.heap.size (blk_in XX2.out)).trans XX2.out
        clear k0 k1 k2 k3 k4 k5 k6 k7
        have XX3 : Hid _ := X3
        have k0 : w3.cell? ⟨w.heap.size, 0, none⟩ = some (.string nm) := by simp [World.cell?, X3]
        have k1 : w3.cell? ⟨w.heap.size, 1, none⟩ = some (.int .i64 wh) := by simp [World.cell?, X3]
        have k2 : w3.cell? ⟨w.heap.size, 2, none⟩ = some (.int .i64 ce) := by simp [World.cell?, X3]
        have k3 : w3.cell? ⟨w.heap.size, 3, none⟩ = some (.int .i64 ba) := by simp [World.cell?, X3]
        have k4 : w3.cell? ⟨w.heap.size, 4, none⟩ = some (.int .i64 rg) := by simp [World.cell?, X3]
        have k5 : w3.cell? ⟨w.heap.size, 5, none⟩ = some (.int .i64 sl) := by simp [World.cell?, X3]
        have k6 : w3.cell? ⟨w.heap.size, 6, none⟩ = some (.slice x1 os.length p1) := by simp [World.cell?, X3]
        have k7 : w3.cell? ⟨w.heap.size, 7, none⟩ = some (.slice x2 ls.length p2) := by simp [World.cell?, X3]
        clear hb X3
        go_wp2_with fail
        refine (H4.out _).mono ?_
        rintro e w4 ⟨rfl, hb⟩
        have B4 : Hid (Below w.heap.size w w4) := bl_tr B3.out hb
        have X4 := (hb.block w.heap.size (blk_in XX3.out)).trans XX3.out
        clear k0 k1 k2 k3 k4 k5 k6 k7
        have XX4 : Hid _ := X4
        have k0 : w4.cell? ⟨w.heap.size, 0, none⟩ = some (.string nm) := by simp [World.cell?, X4]
        have k1 : w4.cell? ⟨w.heap.size, 1, none⟩ = some (.int .i64 wh) := by simp [World.cell?, X4]
        have k2 : w4.cell? ⟨w.heap.size, 2, none⟩ = some (.int .i64 ce) := by simp [World.cell?, X4]
        have k3 : w4.cell? ⟨w.heap.size, 3, none⟩ = some (.int .i64 ba) := by simp [World.cell?, X4]
        have k4 : w4.cell? ⟨w.heap.size, 4, none⟩ = some (.int .i64 rg) := by simp [World.cell?, X4]
        have k5 : w4.cell? ⟨w.heap.size, 5, none⟩ = some (.int .i64 sl) := by simp [World.cell?, X4]
        have k6 : w4.cell? ⟨w.heap.size, 6, none⟩ = some (.slice x1 os.length p1) := by simp [World.cell?, X4]
        have k7 : w4.cell? ⟨w.heap.size, 7, none⟩ = some (.slice x2 ls.length p2) := by simp [World.cell?, X4]
        clear hb X4
        go_wp2
        go_ret
        exact ⟨by simp, B4.out⟩
    · have n2 : (ba == -1) = false := by simp [q2]
      rw [decide_eq_false q2]
      clear q2
      go_enter Tryz.func51, Tryz.ntmps51
      go_wp2_with fail
      refine (H1.out _).mono ?_
      rintro e w1 ⟨rfl, hb⟩
      have B1 : Hid (Below w.heap.size w w1) := bl_tr (by go_grown) hb
      have X1 := (hb.block w.heap.size (by simp)).trans (heap_alloc_last w _)
      have XX1 : Hid _ := X1
      have k0 : w1.cell? ⟨w.heap.size, 0, none⟩ = some (.string nm) := by simp [World.cell?, X1]
      have k1 : w1.cell? ⟨w.heap.size, 1, none⟩ = some (.int .i64 wh) := by simp [World.cell?, X1]
      have k2 : w1.cell? ⟨w.heap.size, 2, none⟩ = some (.int .i64 ce) := by simp [World.cell?, X1]
      have k3 : w1.cell? ⟨w.heap.size, 3, none⟩ = some (.int .i64 ba) := by simp [World.cell?, X1]
      have k4 : w1.cell? ⟨w.heap.size, 4, none⟩ = some (.int .i64 rg) := by simp [World.cell?, X1]
      have k5 : w1.cell? ⟨w.heap.size, 5, none⟩ = some (.int .i64 sl) := by simp [World.cell?, X1]
      have k6 : w1.cell? ⟨w.heap.size, 6, none⟩ = some (.slice x1 os.length p1) := by simp [World.cell?, X1]
      have k7 : w1.cell? ⟨w.heap.size, 7, none⟩ = some (.slice x2 ls.length p2) := by simp [World.cell?, X1]
      clear hb X1
      go_wp2_with fail
      refine (H2.out _).mono ?_
      rintro e w2 ⟨rfl, hb⟩
      have B2 : Hid (Below w.heap.size w w2) := bl_tr B1.out hb
      have X2 := (hb.block w.heap.size (blk_in XX1.out)).trans XX1.out
      clear k0 k1 k2 k3 k4 k5 k6 k7
      have XX2 : Hid _ := X2
      have k0 : w2.cell? ⟨w.heap.size, 0, none⟩ = some (.string nm) := by simp [World.cell?, X2]
      have k1 : w2.cell? ⟨w.heap.size, 1, none⟩ = some (.int .i64 wh) := by simp [World.cell?, X2]
      have k2 : w2.cell? ⟨w.heap.size, 2, none⟩ = some (.int .i64 ce) := by simp [World.cell?, X2]
      have k3 : w2.cell? ⟨w.heap.size, 3, none⟩ = some (.int .i64 ba) := by simp [World.cell?, X2]
      have k4 : w2.cell? ⟨w.heap.size, 4, none⟩ = some (.int .i64 rg) := by simp [World.cell?, X2]
      have k5 : w2.cell? ⟨w.heap.size, 5, none⟩ = some (.int .i64 sl) := by simp [World.cell?, X2]
      have k6 : w2.cell? ⟨w.heap.size, 6, none⟩ = some (.slice x1 os.length p1) := by simp [World.cell?, X2]
      have k7 : w2.cell? ⟨w.heap.size, 7, none⟩ = some (.slice x2 ls.length p2) := by simp [World.cell?, X2]
      clear hb X2
      go_wp2
      go_ret
      exact ⟨by simp, B2.out⟩
end Go.Proofs.YtdcjngakmkgbmaaGreat
