/- image: may a cell begin with its value, may it lie; no statement of the seat is proved here. -/
import Derived.Test.YtdcjngakmkgbmaaGreatKoA5
import Derived.Handy
namespace Go.Proofs.YtdcjngakmkgbmaaGreat
set_option linter.unusedVariables false
open Go.RowKit
set_option maxHeartbeats 1000000 in
theorem has_of (a b x : Int) (w : World) : Calls Tryz.prog 93 #[.agg #[.int .i64 a, .int .i64 b], .int .i64 x] w fun e w' => e = .returned (.bool (inB a b x)) ∧ Below w.heap.size w w' := by
  unfold inB
  by_cases c : a ≤ x
  · by_cases d : x ≤ b
    · rw [decide_eq_true c, decide_eq_true d]
      go_enter Tryz.func93, Tryz.ntmps93
      go_wp2
      go_ret
      exact ⟨rfl, by go_grown⟩
    · rw [decide_eq_true c, decide_eq_false d]
      go_enter Tryz.func93, Tryz.ntmps93
      go_wp2
      go_ret
      exact ⟨rfl, by go_grown⟩
  · rw [decide_eq_false c]
    go_enter Tryz.func93, Tryz.ntmps93
    go_wp2
    go_ret
    exact ⟨rfl, by go_grown⟩
set_option maxHeartbeats 1000000 in
theorem below_of (n : Int) (h : -9223372036854775808 < n ∧ n < 9223372036854775808) (w : World) : Calls Tryz.prog 98 #[.int .i64 n] w fun e w' => e = .returned (.agg #[.int .i64 0, .int .i64 (n - 1)]) ∧ Below w.heap.size w w' := by
  have e : wrap64 (n - 1) = n - 1 := by unfold wrap64; omega
  go_enter Tryz.func98, Tryz.ntmps98
  go_wp2
  exact bodyPost_ret (v := .agg #[.int .i64 0, .int .i64 (n - 1)]) (by simp [results, Tryz.results98, go_sem]) rfl ⟨rfl, by go_grown⟩
set_option maxHeartbeats 1000000 in
theorem fits_of (ba sz n : Int) (w : World) (h : 0 ≤ sz ∧ sz ≤ 4096) (hn : 0 ≤ n ∧ n ≤ 4611686018427387904) : Calls Tryz.prog 94 #[.int .i64 ba, .int .i64 sz, .int .i64 n] w fun e w' => e = .returned (.bool (ftB ba sz n)) ∧ w' = w := by
  unfold ftB
  have e : wrap64 (n - sz) = n - sz := by unfold wrap64; omega
  by_cases c : 0 ≤ ba
  · by_cases d : ba ≤ n - sz
    · rw [decide_eq_true c, decide_eq_true d]
      go_enter Tryz.func94, Tryz.ntmps94
      go_wp2
      go_ret
      exact ⟨rfl, rfl⟩
    · rw [decide_eq_true c, decide_eq_false d]
      go_enter Tryz.func94, Tryz.ntmps94
      go_wp2
      go_ret
      exact ⟨rfl, rfl⟩
  · rw [decide_eq_false c]
    go_enter Tryz.func94, Tryz.ntmps94
    go_wp2
    go_ret
    exact ⟨rfl, rfl⟩
set_option maxHeartbeats 1000000 in
theorem isIntI_of (k : Int) (w : World) : Calls Tryz.prog 118 #[.int .u8 k] w fun e w' => e = .returned (.bool (inB 2 9 k)) ∧ w' = w := by
  unfold inB
  by_cases c : 2 ≤ k
  · by_cases d : k ≤ 9
    · rw [decide_eq_true c, decide_eq_true d]
      go_enter Tryz.func118, Tryz.ntmps118
      go_wp2
      go_ret
      exact ⟨rfl, rfl⟩
    · rw [decide_eq_true c, decide_eq_false d]
      go_enter Tryz.func118, Tryz.ntmps118
      go_wp2
      go_ret
      exact ⟨rfl, rfl⟩
  · rw [decide_eq_false c]
    go_enter Tryz.func118, Tryz.ntmps118
    go_wp2
    go_ret
    exact ⟨rfl, rfl⟩
set_option maxHeartbeats 1000000 in
theorem nowhere_of (w : World) : Calls Tryz.prog 119 #[] w fun e w' => e = .returned (.agg #[.int .u8 20, .int .u64 0, .string ⟨#[]⟩]) ∧ Below w.heap.size w w' := by
  go_enter Tryz.func119, Tryz.ntmps119
  go_wp2
  exact bodyPost_ret (v := .agg #[.int .u8 20, .int .u64 0, .string ⟨#[]⟩]) (by simp [results, Tryz.results119, go_sem]) rfl ⟨rfl, by go_grown⟩
theorem kinds20 (k : Int) (h : 1 ≤ k ∧ k ≤ 20) : k = 1 ∨ k = 2 ∨ k = 3 ∨ k = 4 ∨ k = 5 ∨ k = 6 ∨ k = 7 ∨ k = 8 ∨ k = 9 ∨ k = 10 ∨ k = 11 ∨ k = 12 ∨ k = 13 ∨ k = 14 ∨ k = 15 ∨ k = 16 ∨ k = 17 ∨ k = 18 ∨ k = 19 ∨ k = 20 := by omega
set_option maxHeartbeats 4000000 in
theorem widthI_of (k : Int) (h : 1 ≤ k ∧ k ≤ 20) (w : World) : Calls Tryz.prog 122 #[.int .u8 k] w fun e w' => e = .returned (.int .i64 (wdK k)) ∧ w' = w := by
  rcases kinds20 k h with rfl | rfl | rfl | rfl | rfl | rfl | rfl | rfl | rfl | rfl | rfl | rfl | rfl | rfl | rfl | rfl | rfl | rfl | rfl | rfl
  all_goals
    go_enter Tryz.func122, Tryz.ntmps122
    go_wp2
    go_ret
    exact ⟨rfl, rfl⟩
end Go.Proofs.YtdcjngakmkgbmaaGreat
namespace Go.Proofs.YtdcjngakmkgbmaaGreat
set_option linter.unusedVariables false
open Go.RowKit
theorem bl_tr {w W w1 : World} (h : Below w.heap.size w W) (hb : Below W.heap.size W w1) : Below w.heap.size w w1 := h.trans (hb.mono h.size)
/-- A cell as a value. -/
abbrev CeV (c : CeR) : Value := .agg #[.int .u8 c.kd, .bool c.sb, .int .i64 c.lo, .int .i64 c.hi, .int .i64 c.mx, .int .u8 c.ik, .int .u64 c.ib, .string c.is, .bool c.kp, .int .i64 c.dr, .string c.ad]
set_option maxHeartbeats 4000000 in
theorem mayBound_of (c : CeR) (w : World) : Calls Tryz.prog 90 #[CeV c] w fun e w' => e = .returned (.bool (bdB c)) ∧ Below w.heap.size w w' := by
  obtain ⟨kd, sb, lo, hi, mx, ik, ib, is, kp, dr, ad⟩ := c
  unfold bdB
  simp only
  have H1 : Hid (∀ W, Calls Tryz.prog 93 #[.agg #[.int .i64 0, .int .i64 254], .int .i64 mx] W fun e w' => e = .returned (.bool (inB 0 254 mx)) ∧ Below W.heap.size W w') := fun W => has_of _ _ _ W
  have H2 : Hid (∀ W, Calls Tryz.prog 93 #[.agg #[.int .i64 0, .int .i64 0], .int .i64 mx] W fun e w' => e = .returned (.bool (decide (mx = 0))) ∧ Below W.heap.size W w') := fun W => by
    have := has_of 0 0 mx W
    have e : inB 0 0 mx = decide (mx = 0) := by unfold inB; rw [← Bool.decide_and]; exact decide_eq_decide.2 ⟨fun h => by omega, fun h => by omega⟩
    rwa [e] at this
  cases sb
  · simp only [if_neg Bool.false_ne_true]
    by_cases q1 : lo = 0
    case neg =>
      have p1 : (lo == 0) = false := by simp [q1]
      rw [decide_eq_false q1]
      clear q1
      go_enter Tryz.func90, Tryz.ntmps90
      go_wp2
      all_goals
        go_ret
        exact ⟨rfl, by go_grown⟩
    subst q1
    by_cases q2 : hi = 0
    case neg =>
      have p2 : (hi == 0) = false := by simp [q2]
      rw [decide_eq_false q2]
      clear q2
      go_enter Tryz.func90, Tryz.ntmps90
      go_wp2
      all_goals
        go_ret
        exact ⟨rfl, by go_grown⟩
    subst q2
    rw [decide_eq_true rfl]
    by_cases q3 : kd = 19
    · subst q3
      rw [if_pos rfl]
      generalize inB 0 254 mx = r at *
      go_enter Tryz.func90, Tryz.ntmps90
      go_wp2_with fail
      refine (H1.out _).mono ?_
      rintro e w1 ⟨rfl, hb⟩
      have B1 : Hid (Below w.heap.size w w1) := bl_tr (by go_grown) hb
      clear hb
      go_wp2
      go_ret
      exact ⟨rfl, B1.out⟩
    · have p3 : (kd == 19) = false := by simp [q3]
      rw [if_neg q3]
      clear q3
      generalize decide (mx = 0) = r at *
      go_enter Tryz.func90, Tryz.ntmps90
      go_wp2_with fail
      refine (H2.out _).mono ?_
      rintro e w1 ⟨rfl, hb⟩
      have B1 : Hid (Below w.heap.size w w1) := bl_tr (by go_grown) hb
      clear hb
      go_wp2
      go_ret
      exact ⟨rfl, B1.out⟩
  · simp only [if_pos]
    have I1 : Hid (∀ W, Calls Tryz.prog 118 #[.int .u8 kd] W fun e w' => e = .returned (.bool (inB 2 9 kd)) ∧ w' = W) := fun W => isIntI_of kd W
    cases q0 : inB 2 9 kd
    case false =>
      rw [q0] at I1
      clear q0
      cases p1 : (lo == 0) <;> cases p2 : (hi == 0)
      all_goals
        go_enter Tryz.func90, Tryz.ntmps90
        go_wp2_with fail
        refine (I1.out _).mono ?_
        rintro e w1 ⟨rfl, rfl⟩
        go_wp2
        all_goals
          go_ret
          exact ⟨rfl, by go_grown⟩
    rw [q0] at I1
    have nk : ¬ kd = 19 := fun e => by subst e; exact absurd q0 (by decide)
    have p3 : (kd == 19) = false := by simp [nk]
    rw [if_neg nk]
    clear nk q0
    generalize decide (mx = 0) = r at *
    by_cases q1 : lo ≤ hi
    · rw [decide_eq_true q1]
      cases p1 : (lo == 0) <;> cases p2 : (hi == 0)
      all_goals
        go_enter Tryz.func90, Tryz.ntmps90
        go_wp2_with fail
        refine (I1.out _).mono ?_
        rintro e w1 ⟨rfl, rfl⟩
        go_wp2_with fail
        refine (H2.out _).mono ?_
        rintro e w1 ⟨rfl, hb⟩
        have B1 : Hid (Below w.heap.size w w1) := bl_tr (by go_grown) hb
        clear hb
        go_wp2
        go_ret
        exact ⟨rfl, B1.out⟩
    · rw [decide_eq_false q1]
      cases p1 : (lo == 0) <;> cases p2 : (hi == 0)
      all_goals
        go_enter Tryz.func90, Tryz.ntmps90
        go_wp2_with fail
        refine (I1.out _).mono ?_
        rintro e w1 ⟨rfl, rfl⟩
        go_wp2
        go_ret
        exact ⟨rfl, by go_grown⟩
end Go.Proofs.YtdcjngakmkgbmaaGreat
namespace Go.Proofs.YtdcjngakmkgbmaaGreat
set_option linter.unusedVariables false
open Go.RowKit
theorem eqNw (k b : Int) (s : ByteArray) (w : World) : (binOp .eql 38 (.agg #[.int .u8 k, .int .u64 b, .string s]) (.agg #[.int .u8 20, .int .u64 0, .string ⟨#[]⟩])).run Tryz.prog w = .ok (.bool (nwB k b s)) w := by
  unfold nwB emB
  by_cases h1 : k = 20
  · subst h1
    by_cases h2 : b = 0
    · subst h2
      by_cases h3 : s.toList = []
      · simp [go_sem, h3]
      · simp [go_sem, h3]
    · simp [go_sem, h2]
  · simp [go_sem, h1]
theorem blk_in {c : World} {g : Nat} {o : Obj} (h : c.heap[g]? = some o) : g < c.heap.size := (Array.getElem?_eq_some_iff.1 h).1
set_option maxHeartbeats 4000000 in
theorem mayBegin_of (c : CeR) (h : CeOk c) (w : World) : Calls Tryz.prog 91 #[CeV c] w fun e w' => e = .returned (.bool (bgB c)) ∧ Below w.heap.size w w' := by
  obtain ⟨h1, h2, h3, h4, h5, h6, h7, h8, h9⟩ := h
  have g2 := wf_i64 h2
  have g3 := wf_i64 h3
  have g5 := wf_u8 h5
  have g6 := wf_u64 h6
  have g7 := sh_max h7
  clear h1 h2 h3 h4 h5 h6 h7 h8 h9
  obtain ⟨kd, sb, lo, hi, mx, ik, ib, is, kp, dr, ad⟩ := c
  simp only at g2 g3 g5 g6 g7
  unfold bgB
  simp only
  have F1 : Hid (∀ W, Calls Tryz.prog 120 #[.agg #[.int .u8 kd, .bool sb, .int .i64 lo, .int .i64 hi, .int .i64 mx, .bool false, .int .i64 0, .int .i64 0, .string ⟨#[]⟩], .agg #[.int .u8 ik, .int .u64 ib, .string is]] W fun e w' => e = .returned (.int .i64 (fitsF ik ib is kd sb lo hi mx)) ∧ Below W.heap.size W w') := fun W => Fits_of kd sb lo hi mx false 0 0 ⟨#[]⟩ ik ib is W g6.1 g6.2 g5 g7 g2 g3
  clear g2 g3 g5 g6 g7
  by_cases q : kd = 20
  · subst q
    rw [if_pos rfl]
    have ev := eqNw ik ib is
    generalize nwB ik ib is = r at *
    go_enter Tryz.func91, Tryz.ntmps91
    go_wp2_with fail
    obtain ⟨AW, eW⟩ : ∃ AW, AW = w.alloc (.cells #[.int .u8 20, .bool sb, .int .i64 lo, .int .i64 hi, .int .i64 mx, .int .u8 ik, .int .u64 ib, .string is, .bool kp, .int .i64 dr, .string ad] 40 (0, 0)) := ⟨_, rfl⟩
    have AX : AW.heap[w.heap.size]? = some (.cells #[.int .u8 20, .bool sb, .int .i64 lo, .int .i64 hi, .int .i64 mx, .int .u8 ik, .int .u64 ib, .string is, .bool kp, .int .i64 dr, .string ad] 40 (0, 0)) := by rw [eW]; exact heap_alloc_last _ _
    have AB : Hid (Below w.heap.size w AW) := by rw [eW]; exact (Below.refl _ _).alloc (Nat.le_refl _) _
    rw [← eW]
    clear eW
    have zl := blk_in AX
    have c5 : ∀ y : Sub AW, y.w.cell? ⟨w.heap.size, 5, none⟩ = some (.int .u8 ik) := fun y => (y.h.cell (p := ⟨w.heap.size, 5, none⟩) zl).trans (by simp [World.cell?, AX])
    have c6 : ∀ y : Sub AW, y.w.cell? ⟨w.heap.size, 6, none⟩ = some (.int .u64 ib) := fun y => (y.h.cell (p := ⟨w.heap.size, 6, none⟩) zl).trans (by simp [World.cell?, AX])
    have c7 : ∀ y : Sub AW, y.w.cell? ⟨w.heap.size, 7, none⟩ = some (.string is) := fun y => (y.h.cell (p := ⟨w.heap.size, 7, none⟩) zl).trans (by simp [World.cell?, AX])
    have N1 : Hid (∀ y : Sub AW, Calls Tryz.prog 119 #[] y.w fun e w' => e = .returned (.agg #[.int .u8 20, .int .u64 0, .string ⟨#[]⟩]) ∧ Below y.w.heap.size y.w w') := fun y => nowhere_of y.w
    clear AX
    refine wp_region_sub2 (by kernel_rfl) (by kernel_rfl) ?_
    intro cx
    clear cx
    repeat (first | go_big_quiet_skip | (go_big_quiet_want; go_big_quiet_op; first | go_big_quiet_on | (refine ⟨_, fun _ => rfl, ?_⟩; go_big_quiet_on) | go_big_quiet_call (first | (go_at_call 119; exact calls_sub (N1.out _)))))
    refine wpQuiet_nil ?_
    rintro _ ⟨y, rfl⟩
    have Y : Hid (Below w.heap.size w y.w) := bl_tr AB.out y.h
    clear c5 c6 c7 N1 zl ev
    go_wp2
    go_ret
    exact ⟨rfl, Y.out⟩
  · rw [if_neg q]
    have p : (kd == 20) = false := by simp [q]
    clear q
    generalize hz : fitsF ik ib is kd sb lo hi mx = z at *
    by_cases z0 : z = 0
    · subst z0
      go_enter Tryz.func91, Tryz.ntmps91
      go_wp2_with fail
      refine (F1.out _).mono ?_
      rintro e w1 ⟨rfl, hb⟩
      have B1 : Hid (Below w.heap.size w w1) := bl_tr (by go_grown) hb
      clear hb
      go_wp2
      go_ret
      exact ⟨rfl, B1.out⟩
    · have z1 : (z == 0) = false := by simp [z0]
      rw [decide_eq_false z0]
      clear z0
      go_enter Tryz.func91, Tryz.ntmps91
      go_wp2_with fail
      refine (F1.out _).mono ?_
      rintro e w1 ⟨rfl, hb⟩
      have B1 : Hid (Below w.heap.size w w1) := bl_tr (by go_grown) hb
      clear hb
      go_wp2
      go_ret
      exact ⟨rfl, B1.out⟩
set_option maxHeartbeats 4000000 in
theorem mayLie_of (c : CeR) (h : CeOk c) (hk : 1 ≤ c.kd ∧ c.kd ≤ 20) (w : World) : Calls Tryz.prog 92 #[CeV c] w fun e w' => e = .returned (.bool (liB c)) ∧ Below w.heap.size w w' := by
  have g9 := sh_max h.2.2.2.2.2.2.2.2
  clear h
  obtain ⟨kd, sb, lo, hi, mx, ik, ib, is, kp, dr, ad⟩ := c
  simp only at g9 hk
  unfold liB adB
  simp only
  have H1 : Hid (∀ W, Calls Tryz.prog 93 #[.agg #[.int .i64 0, .int .i64 2], .int .i64 dr] W fun e w' => e = .returned (.bool (inB 0 2 dr)) ∧ Below W.heap.size W w') := fun W => has_of _ _ _ W
  have H2 : Hid (∀ W, Calls Tryz.prog 121 #[.string ad] W fun e w' => e = .returned (addrV ad) ∧ Below W.heap.size W w') := fun W => IsAddr_of ad W g9
  have H3 : Hid (∀ W, Calls Tryz.prog 122 #[.int .u8 kd] W fun e w' => e = .returned (.int .i64 (wdK kd)) ∧ w' = W) := fun W => widthI_of kd hk W
  clear g9 hk
  generalize inB 0 2 dr = r1 at *
  cases r1
  · rw [Bool.false_and]
    go_enter Tryz.func92, Tryz.ntmps92
    go_wp2_with fail
    refine (H1.out _).mono ?_
    rintro e w1 ⟨rfl, hb⟩
    have B1 : Hid (Below w.heap.size w w1) := bl_tr (by go_grown) hb
    clear hb
    go_wp2
    go_ret
    exact ⟨rfl, B1.out⟩
  cases q : emB ad
  case true =>
    have q1 : ad.toList.isEmpty = true := q
    rw [if_pos rfl]
    clear q
    by_cases d0 : dr = 0
    · subst d0
      go_enter Tryz.func92, Tryz.ntmps92
      go_wp2_with fail
      refine (H1.out _).mono ?_
      rintro e w1 ⟨rfl, hb⟩
      have B1 : Hid (Below w.heap.size w w1) := bl_tr (by go_grown) hb
      have X1 := (hb.block w.heap.size (by simp)).trans (heap_alloc_last w _)
      have k9 : w1.cell? ⟨w.heap.size, 9, none⟩ = some (.int .i64 0) := by simp [World.cell?, X1]
      have k10 : w1.cell? ⟨w.heap.size, 10, none⟩ = some (.string ad) := by simp [World.cell?, X1]
      clear hb X1
      go_wp2
      go_ret
      exact ⟨rfl, B1.out⟩
    · have d1 : (dr == 0) = false := by simp [d0]
      rw [decide_eq_false d0]
      clear d0
      go_enter Tryz.func92, Tryz.ntmps92
      go_wp2_with fail
      refine (H1.out _).mono ?_
      rintro e w1 ⟨rfl, hb⟩
      have B1 : Hid (Below w.heap.size w w1) := bl_tr (by go_grown) hb
      have X1 := (hb.block w.heap.size (by simp)).trans (heap_alloc_last w _)
      have k9 : w1.cell? ⟨w.heap.size, 9, none⟩ = some (.int .i64 dr) := by simp [World.cell?, X1]
      have k10 : w1.cell? ⟨w.heap.size, 10, none⟩ = some (.string ad) := by simp [World.cell?, X1]
      clear hb X1
      go_wp2
      go_ret
      exact ⟨rfl, B1.out⟩
  case false =>
    have q1 : ad.toList.isEmpty = false := q
    rw [if_neg (by simp)]
    clear q
    unfold addrV at H2
    generalize addrB ad = ra at *
    generalize dirN (byt ad 1) = D at *
    generalize bitN (byt ad 2) = N at *
    generalize wdK kd = wk at *
    cases ra
    · rw [Bool.false_and, Bool.false_and, Bool.false_and]
      simp only [if_neg Bool.false_ne_true] at H2
      go_enter Tryz.func92, Tryz.ntmps92
      go_wp2_with fail
      refine (H1.out _).mono ?_
      rintro e w1 ⟨rfl, hb⟩
      have B1 : Hid (Below w.heap.size w w1) := bl_tr (by go_grown) hb
      have X1 := (hb.block w.heap.size (by simp)).trans (heap_alloc_last w _)
      have XX : Hid _ := X1
      have z1 : w.heap.size < w1.heap.size := blk_in X1
      have k10 : w1.cell? ⟨w.heap.size, 10, none⟩ = some (.string ad) := by simp [World.cell?, X1]
      clear hb X1
      go_wp2_with fail
      refine (H2.out _).mono ?_
      rintro e w2 ⟨rfl, hb⟩
      have B2 : Hid (Below w.heap.size w w2) := bl_tr B1.out hb
      have X2 := (hb.block w.heap.size z1).trans XX.out
      have k0 : w2.cell? ⟨w.heap.size, 0, none⟩ = some (.int .u8 kd) := by simp [World.cell?, X2]
      have k1 : w2.cell? ⟨w.heap.size, 1, none⟩ = some (.bool sb) := by simp [World.cell?, X2]
      have k9 : w2.cell? ⟨w.heap.size, 9, none⟩ = some (.int .i64 dr) := by simp [World.cell?, X2]
      clear hb X2 k10 XX
      go_wp2
      go_ret
      exact ⟨rfl, B2.out⟩
    simp only [if_pos] at H2
    by_cases d0 : D = dr
    case neg =>
      have d1 : (D == dr) = false := by simp [d0]
      rw [decide_eq_false d0]
      clear d0
      go_enter Tryz.func92, Tryz.ntmps92
      go_wp2_with fail
      refine (H1.out _).mono ?_
      rintro e w1 ⟨rfl, hb⟩
      have B1 : Hid (Below w.heap.size w w1) := bl_tr (by go_grown) hb
      have X1 := (hb.block w.heap.size (by simp)).trans (heap_alloc_last w _)
      have XX : Hid _ := X1
      have z1 : w.heap.size < w1.heap.size := blk_in X1
      have k10 : w1.cell? ⟨w.heap.size, 10, none⟩ = some (.string ad) := by simp [World.cell?, X1]
      clear hb X1
      go_wp2_with fail
      refine (H2.out _).mono ?_
      rintro e w2 ⟨rfl, hb⟩
      have B2 : Hid (Below w.heap.size w w2) := bl_tr B1.out hb
      have X2 := (hb.block w.heap.size z1).trans XX.out
      have k0 : w2.cell? ⟨w.heap.size, 0, none⟩ = some (.int .u8 kd) := by simp [World.cell?, X2]
      have k1 : w2.cell? ⟨w.heap.size, 1, none⟩ = some (.bool sb) := by simp [World.cell?, X2]
      have k9 : w2.cell? ⟨w.heap.size, 9, none⟩ = some (.int .i64 dr) := by simp [World.cell?, X2]
      clear hb X2 k10 XX
      go_wp2
      go_ret
      exact ⟨rfl, B2.out⟩
    subst d0
    rw [decide_eq_true rfl]
    by_cases n0 : N = wk
    case neg =>
      have n1 : (N == wk) = false := by simp [n0]
      rw [decide_eq_false n0]
      clear n0
      go_enter Tryz.func92, Tryz.ntmps92
      go_wp2_with fail
      refine (H1.out _).mono ?_
      rintro e w1 ⟨rfl, hb⟩
      have B1 : Hid (Below w.heap.size w w1) := bl_tr (by go_grown) hb
      have X1 := (hb.block w.heap.size (by simp)).trans (heap_alloc_last w _)
      have XX : Hid _ := X1
      have z1 : w.heap.size < w1.heap.size := blk_in X1
      have k10 : w1.cell? ⟨w.heap.size, 10, none⟩ = some (.string ad) := by simp [World.cell?, X1]
      clear hb X1
      go_wp2_with fail
      refine (H2.out _).mono ?_
      rintro e w2 ⟨rfl, hb⟩
      have B2 : Hid (Below w.heap.size w w2) := bl_tr B1.out hb
      have X2 := (hb.block w.heap.size z1).trans XX.out
      have k0 : w2.cell? ⟨w.heap.size, 0, none⟩ = some (.int .u8 kd) := by simp [World.cell?, X2]
      have k1 : w2.cell? ⟨w.heap.size, 1, none⟩ = some (.bool sb) := by simp [World.cell?, X2]
      have k9 : w2.cell? ⟨w.heap.size, 9, none⟩ = some (.int .i64 D) := by simp [World.cell?, X2]
      clear hb X2 k10 XX
      go_wp2_with fail
      refine (H3.out _).mono ?_
      rintro e w3 ⟨rfl, rfl⟩
      go_wp2
      go_ret
      exact ⟨by simp, B2.out⟩
    subst n0
    rw [decide_eq_true rfl]
    go_enter Tryz.func92, Tryz.ntmps92
    go_wp2_with fail
    refine (H1.out _).mono ?_
    rintro e w1 ⟨rfl, hb⟩
    have B1 : Hid (Below w.heap.size w w1) := bl_tr (by go_grown) hb
    have X1 := (hb.block w.heap.size (by simp)).trans (heap_alloc_last w _)
    have XX : Hid _ := X1
    have z1 : w.heap.size < w1.heap.size := blk_in X1
    have k10 : w1.cell? ⟨w.heap.size, 10, none⟩ = some (.string ad) := by simp [World.cell?, X1]
    clear hb X1
    go_wp2_with fail
    refine (H2.out _).mono ?_
    rintro e w2 ⟨rfl, hb⟩
    have B2 : Hid (Below w.heap.size w w2) := bl_tr B1.out hb
    have X2 := (hb.block w.heap.size z1).trans XX.out
    have k0 : w2.cell? ⟨w.heap.size, 0, none⟩ = some (.int .u8 kd) := by simp [World.cell?, X2]
    have k1 : w2.cell? ⟨w.heap.size, 1, none⟩ = some (.bool sb) := by simp [World.cell?, X2]
    have k9 : w2.cell? ⟨w.heap.size, 9, none⟩ = some (.int .i64 D) := by simp [World.cell?, X2]
    clear hb X2 k10 XX
    go_wp2_with fail
    refine (H3.out _).mono ?_
    rintro e w3 ⟨rfl, rfl⟩
    go_wp2
    go_ret
    exact ⟨by simp, B2.out⟩
end Go.Proofs.YtdcjngakmkgbmaaGreat
