/- image: may a code end, loop; may an instruction's bounds and value be; no statement of the seat is proved here. -/
import Derived.Test.YtdcjngakmkgbmaaGreatCkGK
namespace Go.Proofs.YtdcjngakmkgbmaaGreat
set_option linter.unusedVariables false
open Go.RowKit
/-- An instruction as a value. -/
abbrev OpV (o : OpR) : Value := .agg #[.int .i64 o.cd, .int .i64 o.a, .int .i64 o.b, .int .i64 o.c, .int .i64 o.d, .int .i64 o.lo, .int .i64 o.hi, .int .u8 o.vk, .int .u64 o.vb, .string o.vs]
set_option maxRecDepth 20000 in
set_option maxHeartbeats 4000000 in
theorem mayEnd_of (f : FlR) (x1 x2 : Option Addr) (p1 p2 : Nat) (w : World) {S : Nat → Prop} (hS : ∀ b, S b → b < w.heap.size) (ha : RwF 10 (Is opC) S w x1 f.os) : Calls Tryz.prog 52 #[FlV f x1 x2 p1 p2] w fun e w' => e = .returned (.bool (enB f)) ∧ Below w.heap.size w w' := by
  obtain ⟨nm, wh, ce, ba, rg, sl, os, ls⟩ := f
  unfold enB
  simp only at ha ⊢
  cases os with
  | nil =>
    go_enter Tryz.func52, Tryz.ntmps52
    go_wp2
    go_ret
    exact ⟨rfl, by go_grown⟩
  | cons o0 t =>
    obtain ⟨l, hl⟩ : ∃ l, l = o0 :: t := ⟨_, rfl⟩
    rw [← hl] at ha ⊢
    have l0 : 0 < l.length := by rw [hl]; simp
    have gl : l.getLast? = l[l.length - 1]? := List.getLast?_eq_getElem? ..
    rw [gl]
    clear hl gl
    obtain ⟨a, rfl⟩ := ha.some l0
    have fw := ha.1
    obtain ⟨s, sv, se, hb0, rfl, sk⟩ := ha.el (l.length - 1) (by omega)
    rw [se]
    simp only
    have e0 := sk.c0
    have z0 : a.block < w.heap.size := hS _ hb0
    have n2 : wrap64 ((l.length : Int) - 1) = ((l.length - 1 : Nat) : Int) := by unfold wrap64; omega
    have e0' : ∀ X : Obj, (w.alloc X).cell? (a.add ((wrap64 ((l.length : Int) - 1)).toNat * 10)) = some (.int .i64 s.cd) := fun X => by
      rw [n2]
      exact (((Below.refl _ _).alloc (Nat.le_refl _) X).cell (by rw [add_block]; exact z0)).trans e0
    have n1 : ((l.length : Int) == 0) = false := by rw [beq_eq_false_iff_ne]; omega
    have n3 : 0 ≤ wrap64 ((l.length : Int) - 1) := by rw [n2]; omega
    have n4 : wrap64 ((l.length : Int) - 1) < (l.length : Int) := by rw [n2]; omega
    have n5 : ¬ wrap64 ((l.length : Int) - 1) < 0 := by omega
    clear ha sk se l0 fw n2 e0 z0 hb0 hS
    by_cases c1 : s.cd = 16
    · have q : decide (s.cd = 16 ∨ s.cd = 20 ∨ s.cd = 21) = true := by simp [c1]
      rw [q]
      have d1 : (s.cd == 16) = true := by simp [c1]
      clear q c1
      go_enter Tryz.func52, Tryz.ntmps52
      go_wp2
      go_ret
      exact ⟨rfl, by go_grown⟩
    have d1 : (s.cd == 16) = false := by simp [c1]
    by_cases c2 : s.cd = 20
    · have q : decide (s.cd = 16 ∨ s.cd = 20 ∨ s.cd = 21) = true := by simp [c2]
      rw [q]
      have d2 : (s.cd == 20) = true := by simp [c2]
      clear q c1 c2
      go_enter Tryz.func52, Tryz.ntmps52
      go_wp2
      go_ret
      exact ⟨rfl, by go_grown⟩
    have d2 : (s.cd == 20) = false := by simp [c2]
    by_cases c3 : s.cd = 21
    · have q : decide (s.cd = 16 ∨ s.cd = 20 ∨ s.cd = 21) = true := by simp [c3]
      rw [q]
      have d3 : (s.cd == 21) = true := by simp [c3]
      clear q c1 c2 c3
      go_enter Tryz.func52, Tryz.ntmps52
      go_wp2
      go_ret
      exact ⟨rfl, by go_grown⟩
    have d3 : (s.cd == 21) = false := by simp [c3]
    have q : decide (s.cd = 16 ∨ s.cd = 20 ∨ s.cd = 21) = false := by simp [c1, c2, c3]
    rw [q]
    clear q c1 c2 c3
    go_enter Tryz.func52, Tryz.ntmps52
    go_wp2
    go_ret
    exact ⟨rfl, by go_grown⟩
theorem u_near {lo hi : Int} (h1 : -9223372036854775808 ≤ lo ∧ lo < 9223372036854775808) (h2 : -9223372036854775808 ≤ hi ∧ hi < 9223372036854775808) (h : lo ≤ hi) : IntKind.u64.wrap (IntKind.u64.wrap hi - IntKind.u64.wrap lo) = hi - lo := by
  show (hi % 18446744073709551616 - lo % 18446744073709551616) % 18446744073709551616 = hi - lo
  omega
theorem codes23 (k : Int) (h : 1 ≤ k ∧ k ≤ 23) : k = 1 ∨ k = 2 ∨ k = 3 ∨ k = 4 ∨ k = 5 ∨ k = 6 ∨ k = 7 ∨ k = 8 ∨ k = 9 ∨ k = 10 ∨ k = 11 ∨ k = 12 ∨ k = 13 ∨ k = 14 ∨ k = 15 ∨ k = 16 ∨ k = 17 ∨ k = 18 ∨ k = 19 ∨ k = 20 ∨ k = 21 ∨ k = 22 ∨ k = 23 := by omega
set_option maxRecDepth 20000 in
set_option maxHeartbeats 16000000 in
theorem mayReach_of (o : OpR) (hc : 1 ≤ o.cd ∧ o.cd ≤ 23) (ho : OpOk o) (w : World) : Calls Tryz.prog 96 #[OpV o] w fun e w' => e = .returned (.bool (rcB o)) ∧ Below w.heap.size w w' := by
  obtain ⟨h1, h2, h3, h4, h5, h6, h7, h8, h9, h10⟩ := ho
  have g6 := wf_i64 h6
  have g7 := wf_i64 h7
  clear h1 h2 h3 h4 h5 h6 h7 h8 h9 h10
  obtain ⟨cd, oa, ob, oc, od, lo, hi, vk, vb, vs⟩ := o
  simp only at g6 g7 hc
  unfold rcB
  simp only
  have H1 : Hid (∀ W, Calls Tryz.prog 93 #[.agg #[.int .i64 0, .int .i64 254], .int .i64 hi] W fun e w' => e = .returned (.bool (inB 0 254 hi)) ∧ Below W.heap.size W w') := fun W => has_of _ _ _ W
  rcases codes23 cd hc with rfl | rfl | rfl | rfl | rfl | rfl | rfl | rfl | rfl | rfl | rfl | rfl | rfl | rfl | rfl | rfl | rfl | rfl | rfl | rfl | rfl | rfl | rfl
  · rw [if_neg (by decide), if_neg (by decide), if_neg (by decide)]
    clear g6 g7 H1
    by_cases q : lo = 0
    case neg =>
      have q1 : (lo == 0) = false := by simp [q]
      rw [decide_eq_false q]
      clear q
      go_enter Tryz.func96, Tryz.ntmps96
      go_wp2
      go_ret
      exact ⟨by first | rfl | simp, by go_grown⟩
    have q1 : (lo == 0) = true := by simp [q]
    rw [decide_eq_true q]
    clear q
    by_cases q : hi = 0
    · have q2 : (hi == 0) = true := by simp [q]
      rw [decide_eq_true q]
      clear q
      go_enter Tryz.func96, Tryz.ntmps96
      go_wp2
      go_ret
      exact ⟨by first | rfl | simp, by go_grown⟩
    · have q2 : (hi == 0) = false := by simp [q]
      rw [decide_eq_false q]
      clear q
      go_enter Tryz.func96, Tryz.ntmps96
      go_wp2
      go_ret
      exact ⟨by first | rfl | simp, by go_grown⟩
  · rw [if_neg (by decide), if_neg (by decide), if_neg (by decide)]
    clear g6 g7 H1
    by_cases q : lo = 0
    case neg =>
      have q1 : (lo == 0) = false := by simp [q]
      rw [decide_eq_false q]
      clear q
      go_enter Tryz.func96, Tryz.ntmps96
      go_wp2
      go_ret
      exact ⟨by first | rfl | simp, by go_grown⟩
    have q1 : (lo == 0) = true := by simp [q]
    rw [decide_eq_true q]
    clear q
    by_cases q : hi = 0
    · have q2 : (hi == 0) = true := by simp [q]
      rw [decide_eq_true q]
      clear q
      go_enter Tryz.func96, Tryz.ntmps96
      go_wp2
      go_ret
      exact ⟨by first | rfl | simp, by go_grown⟩
    · have q2 : (hi == 0) = false := by simp [q]
      rw [decide_eq_false q]
      clear q
      go_enter Tryz.func96, Tryz.ntmps96
      go_wp2
      go_ret
      exact ⟨by first | rfl | simp, by go_grown⟩
  · rw [if_neg (by decide), if_neg (by decide), if_neg (by decide)]
    clear g6 g7 H1
    by_cases q : lo = 0
    case neg =>
      have q1 : (lo == 0) = false := by simp [q]
      rw [decide_eq_false q]
      clear q
      go_enter Tryz.func96, Tryz.ntmps96
      go_wp2
      go_ret
      exact ⟨by first | rfl | simp, by go_grown⟩
    have q1 : (lo == 0) = true := by simp [q]
    rw [decide_eq_true q]
    clear q
    by_cases q : hi = 0
    · have q2 : (hi == 0) = true := by simp [q]
      rw [decide_eq_true q]
      clear q
      go_enter Tryz.func96, Tryz.ntmps96
      go_wp2
      go_ret
      exact ⟨by first | rfl | simp, by go_grown⟩
    · have q2 : (hi == 0) = false := by simp [q]
      rw [decide_eq_false q]
      clear q
      go_enter Tryz.func96, Tryz.ntmps96
      go_wp2
      go_ret
      exact ⟨by first | rfl | simp, by go_grown⟩
  · rw [if_neg (by decide), if_neg (by decide), if_neg (by decide)]
    clear g6 g7 H1
    by_cases q : lo = 0
    case neg =>
      have q1 : (lo == 0) = false := by simp [q]
      rw [decide_eq_false q]
      clear q
      go_enter Tryz.func96, Tryz.ntmps96
      go_wp2
      go_ret
      exact ⟨by first | rfl | simp, by go_grown⟩
    have q1 : (lo == 0) = true := by simp [q]
    rw [decide_eq_true q]
    clear q
    by_cases q : hi = 0
    · have q2 : (hi == 0) = true := by simp [q]
      rw [decide_eq_true q]
      clear q
      go_enter Tryz.func96, Tryz.ntmps96
      go_wp2
      go_ret
      exact ⟨by first | rfl | simp, by go_grown⟩
    · have q2 : (hi == 0) = false := by simp [q]
      rw [decide_eq_false q]
      clear q
      go_enter Tryz.func96, Tryz.ntmps96
      go_wp2
      go_ret
      exact ⟨by first | rfl | simp, by go_grown⟩
  · rw [if_pos (by decide)]
    by_cases q : lo ≤ hi
    case neg =>
      rw [decide_eq_false q]
      clear g6 g7 H1
      go_enter Tryz.func96, Tryz.ntmps96
      go_wp2
      go_ret
      exact ⟨by first | rfl | simp, by go_grown⟩
    have un := u_near g6 g7 q
    rw [decide_eq_true q]
    clear g6 g7 H1
    by_cases d : hi - lo < 256
    · rw [decide_eq_true d]
      go_enter Tryz.func96, Tryz.ntmps96
      go_wp2
      go_ret
      exact ⟨by first | rfl | simp, by go_grown⟩
    · rw [decide_eq_false d]
      go_enter Tryz.func96, Tryz.ntmps96
      go_wp2
      go_ret
      exact ⟨by first | rfl | simp, by go_grown⟩
  · rw [if_pos (by decide)]
    by_cases q : lo ≤ hi
    case neg =>
      rw [decide_eq_false q]
      clear g6 g7 H1
      go_enter Tryz.func96, Tryz.ntmps96
      go_wp2
      go_ret
      exact ⟨by first | rfl | simp, by go_grown⟩
    have un := u_near g6 g7 q
    rw [decide_eq_true q]
    clear g6 g7 H1
    by_cases d : hi - lo < 256
    · rw [decide_eq_true d]
      go_enter Tryz.func96, Tryz.ntmps96
      go_wp2
      go_ret
      exact ⟨by first | rfl | simp, by go_grown⟩
    · rw [decide_eq_false d]
      go_enter Tryz.func96, Tryz.ntmps96
      go_wp2
      go_ret
      exact ⟨by first | rfl | simp, by go_grown⟩
  · rw [if_neg (by decide), if_neg (by decide), if_neg (by decide)]
    clear g6 g7 H1
    by_cases q : lo = 0
    case neg =>
      have q1 : (lo == 0) = false := by simp [q]
      rw [decide_eq_false q]
      clear q
      go_enter Tryz.func96, Tryz.ntmps96
      go_wp2
      go_ret
      exact ⟨by first | rfl | simp, by go_grown⟩
    have q1 : (lo == 0) = true := by simp [q]
    rw [decide_eq_true q]
    clear q
    by_cases q : hi = 0
    · have q2 : (hi == 0) = true := by simp [q]
      rw [decide_eq_true q]
      clear q
      go_enter Tryz.func96, Tryz.ntmps96
      go_wp2
      go_ret
      exact ⟨by first | rfl | simp, by go_grown⟩
    · have q2 : (hi == 0) = false := by simp [q]
      rw [decide_eq_false q]
      clear q
      go_enter Tryz.func96, Tryz.ntmps96
      go_wp2
      go_ret
      exact ⟨by first | rfl | simp, by go_grown⟩
  · rw [if_pos (by decide)]
    by_cases q : lo ≤ hi
    case neg =>
      rw [decide_eq_false q]
      clear g6 g7 H1
      go_enter Tryz.func96, Tryz.ntmps96
      go_wp2
      go_ret
      exact ⟨by first | rfl | simp, by go_grown⟩
    have un := u_near g6 g7 q
    rw [decide_eq_true q]
    clear g6 g7 H1
    by_cases d : hi - lo < 256
    · rw [decide_eq_true d]
      go_enter Tryz.func96, Tryz.ntmps96
      go_wp2
      go_ret
      exact ⟨by first | rfl | simp, by go_grown⟩
    · rw [decide_eq_false d]
      go_enter Tryz.func96, Tryz.ntmps96
      go_wp2
      go_ret
      exact ⟨by first | rfl | simp, by go_grown⟩
  · rw [if_neg (by decide), if_neg (by decide), if_neg (by decide)]
    clear g6 g7 H1
    by_cases q : lo = 0
    case neg =>
      have q1 : (lo == 0) = false := by simp [q]
      rw [decide_eq_false q]
      clear q
      go_enter Tryz.func96, Tryz.ntmps96
      go_wp2
      go_ret
      exact ⟨by first | rfl | simp, by go_grown⟩
    have q1 : (lo == 0) = true := by simp [q]
    rw [decide_eq_true q]
    clear q
    by_cases q : hi = 0
    · have q2 : (hi == 0) = true := by simp [q]
      rw [decide_eq_true q]
      clear q
      go_enter Tryz.func96, Tryz.ntmps96
      go_wp2
      go_ret
      exact ⟨by first | rfl | simp, by go_grown⟩
    · have q2 : (hi == 0) = false := by simp [q]
      rw [decide_eq_false q]
      clear q
      go_enter Tryz.func96, Tryz.ntmps96
      go_wp2
      go_ret
      exact ⟨by first | rfl | simp, by go_grown⟩
  · rw [if_neg (by decide), if_neg (by decide), if_neg (by decide)]
    clear g6 g7 H1
    by_cases q : lo = 0
    case neg =>
      have q1 : (lo == 0) = false := by simp [q]
      rw [decide_eq_false q]
      clear q
      go_enter Tryz.func96, Tryz.ntmps96
      go_wp2
      go_ret
      exact ⟨by first | rfl | simp, by go_grown⟩
    have q1 : (lo == 0) = true := by simp [q]
    rw [decide_eq_true q]
    clear q
    by_cases q : hi = 0
    · have q2 : (hi == 0) = true := by simp [q]
      rw [decide_eq_true q]
      clear q
      go_enter Tryz.func96, Tryz.ntmps96
      go_wp2
      go_ret
      exact ⟨by first | rfl | simp, by go_grown⟩
    · have q2 : (hi == 0) = false := by simp [q]
      rw [decide_eq_false q]
      clear q
      go_enter Tryz.func96, Tryz.ntmps96
      go_wp2
      go_ret
      exact ⟨by first | rfl | simp, by go_grown⟩
  · rw [if_neg (by decide), if_neg (by decide), if_neg (by decide)]
    clear g6 g7 H1
    by_cases q : lo = 0
    case neg =>
      have q1 : (lo == 0) = false := by simp [q]
      rw [decide_eq_false q]
      clear q
      go_enter Tryz.func96, Tryz.ntmps96
      go_wp2
      go_ret
      exact ⟨by first | rfl | simp, by go_grown⟩
    have q1 : (lo == 0) = true := by simp [q]
    rw [decide_eq_true q]
    clear q
    by_cases q : hi = 0
    · have q2 : (hi == 0) = true := by simp [q]
      rw [decide_eq_true q]
      clear q
      go_enter Tryz.func96, Tryz.ntmps96
      go_wp2
      go_ret
      exact ⟨by first | rfl | simp, by go_grown⟩
    · have q2 : (hi == 0) = false := by simp [q]
      rw [decide_eq_false q]
      clear q
      go_enter Tryz.func96, Tryz.ntmps96
      go_wp2
      go_ret
      exact ⟨by first | rfl | simp, by go_grown⟩
  · rw [if_neg (by decide), if_neg (by decide), if_neg (by decide)]
    clear g6 g7 H1
    by_cases q : lo = 0
    case neg =>
      have q1 : (lo == 0) = false := by simp [q]
      rw [decide_eq_false q]
      clear q
      go_enter Tryz.func96, Tryz.ntmps96
      go_wp2
      go_ret
      exact ⟨by first | rfl | simp, by go_grown⟩
    have q1 : (lo == 0) = true := by simp [q]
    rw [decide_eq_true q]
    clear q
    by_cases q : hi = 0
    · have q2 : (hi == 0) = true := by simp [q]
      rw [decide_eq_true q]
      clear q
      go_enter Tryz.func96, Tryz.ntmps96
      go_wp2
      go_ret
      exact ⟨by first | rfl | simp, by go_grown⟩
    · have q2 : (hi == 0) = false := by simp [q]
      rw [decide_eq_false q]
      clear q
      go_enter Tryz.func96, Tryz.ntmps96
      go_wp2
      go_ret
      exact ⟨by first | rfl | simp, by go_grown⟩
  · rw [if_neg (by decide), if_neg (by decide), if_neg (by decide)]
    clear g6 g7 H1
    by_cases q : lo = 0
    case neg =>
      have q1 : (lo == 0) = false := by simp [q]
      rw [decide_eq_false q]
      clear q
      go_enter Tryz.func96, Tryz.ntmps96
      go_wp2
      go_ret
      exact ⟨by first | rfl | simp, by go_grown⟩
    have q1 : (lo == 0) = true := by simp [q]
    rw [decide_eq_true q]
    clear q
    by_cases q : hi = 0
    · have q2 : (hi == 0) = true := by simp [q]
      rw [decide_eq_true q]
      clear q
      go_enter Tryz.func96, Tryz.ntmps96
      go_wp2
      go_ret
      exact ⟨by first | rfl | simp, by go_grown⟩
    · have q2 : (hi == 0) = false := by simp [q]
      rw [decide_eq_false q]
      clear q
      go_enter Tryz.func96, Tryz.ntmps96
      go_wp2
      go_ret
      exact ⟨by first | rfl | simp, by go_grown⟩
  · rw [if_neg (by decide), if_pos rfl]
    clear g6 g7 H1
    by_cases q : lo ≤ hi
    · rw [decide_eq_true q]
      go_enter Tryz.func96, Tryz.ntmps96
      go_wp2
      go_ret
      exact ⟨by first | rfl | simp, by go_grown⟩
    · rw [decide_eq_false q]
      go_enter Tryz.func96, Tryz.ntmps96
      go_wp2
      go_ret
      exact ⟨by first | rfl | simp, by go_grown⟩
  · rw [if_neg (by decide), if_neg (by decide), if_pos rfl]
    clear g6 g7
    generalize inB 0 254 hi = r at *
    by_cases q : lo = 0
    case neg =>
      have q1 : (lo == 0) = false := by simp [q]
      rw [decide_eq_false q]
      clear q H1
      go_enter Tryz.func96, Tryz.ntmps96
      go_wp2
      go_ret
      exact ⟨by first | rfl | simp, by go_grown⟩
    have q1 : (lo == 0) = true := by simp [q]
    rw [decide_eq_true q]
    clear q
    go_enter Tryz.func96, Tryz.ntmps96
    go_wp2_with fail
    refine (H1.out _).mono ?_
    rintro e w1 ⟨rfl, hb⟩
    have B1 : Hid (Below w.heap.size w w1) := bl_tr (by go_grown) hb
    have X1 := (hb.block w.heap.size (by simp)).trans (heap_alloc_last w _)
    have XX1 : Hid _ := X1
    have k0 : w1.cell? ⟨w.heap.size, 0, none⟩ = some (.int .i64 15) := by simp [World.cell?, X1]
    have k1 : w1.cell? ⟨w.heap.size, 1, none⟩ = some (.int .i64 oa) := by simp [World.cell?, X1]
    have k2 : w1.cell? ⟨w.heap.size, 2, none⟩ = some (.int .i64 ob) := by simp [World.cell?, X1]
    have k3 : w1.cell? ⟨w.heap.size, 3, none⟩ = some (.int .i64 oc) := by simp [World.cell?, X1]
    have k4 : w1.cell? ⟨w.heap.size, 4, none⟩ = some (.int .i64 od) := by simp [World.cell?, X1]
    have k5 : w1.cell? ⟨w.heap.size, 5, none⟩ = some (.int .i64 lo) := by simp [World.cell?, X1]
    have k6 : w1.cell? ⟨w.heap.size, 6, none⟩ = some (.int .i64 hi) := by simp [World.cell?, X1]
    have k7 : w1.cell? ⟨w.heap.size, 7, none⟩ = some (.int .u8 vk) := by simp [World.cell?, X1]
    have k8 : w1.cell? ⟨w.heap.size, 8, none⟩ = some (.int .u64 vb) := by simp [World.cell?, X1]
    have k9 : w1.cell? ⟨w.heap.size, 9, none⟩ = some (.string vs) := by simp [World.cell?, X1]
    clear hb X1
    cases r
    · go_wp2
      go_ret
      exact ⟨by simp, B1.out⟩
    · go_wp2
      go_ret
      exact ⟨by simp, B1.out⟩
  · rw [if_neg (by decide), if_neg (by decide), if_neg (by decide)]
    clear g6 g7 H1
    by_cases q : lo = 0
    case neg =>
      have q1 : (lo == 0) = false := by simp [q]
      rw [decide_eq_false q]
      clear q
      go_enter Tryz.func96, Tryz.ntmps96
      go_wp2
      go_ret
      exact ⟨by first | rfl | simp, by go_grown⟩
    have q1 : (lo == 0) = true := by simp [q]
    rw [decide_eq_true q]
    clear q
    by_cases q : hi = 0
    · have q2 : (hi == 0) = true := by simp [q]
      rw [decide_eq_true q]
      clear q
      go_enter Tryz.func96, Tryz.ntmps96
      go_wp2
      go_ret
      exact ⟨by first | rfl | simp, by go_grown⟩
    · have q2 : (hi == 0) = false := by simp [q]
      rw [decide_eq_false q]
      clear q
      go_enter Tryz.func96, Tryz.ntmps96
      go_wp2
      go_ret
      exact ⟨by first | rfl | simp, by go_grown⟩
  · rw [if_neg (by decide), if_neg (by decide), if_neg (by decide)]
    clear g6 g7 H1
    by_cases q : lo = 0
    case neg =>
      have q1 : (lo == 0) = false := by simp [q]
      rw [decide_eq_false q]
      clear q
      go_enter Tryz.func96, Tryz.ntmps96
      go_wp2
      go_ret
      exact ⟨by first | rfl | simp, by go_grown⟩
    have q1 : (lo == 0) = true := by simp [q]
    rw [decide_eq_true q]
    clear q
    by_cases q : hi = 0
    · have q2 : (hi == 0) = true := by simp [q]
      rw [decide_eq_true q]
      clear q
      go_enter Tryz.func96, Tryz.ntmps96
      go_wp2
      go_ret
      exact ⟨by first | rfl | simp, by go_grown⟩
    · have q2 : (hi == 0) = false := by simp [q]
      rw [decide_eq_false q]
      clear q
      go_enter Tryz.func96, Tryz.ntmps96
      go_wp2
      go_ret
      exact ⟨by first | rfl | simp, by go_grown⟩
  · rw [if_neg (by decide), if_neg (by decide), if_neg (by decide)]
    clear g6 g7 H1
    by_cases q : lo = 0
    case neg =>
      have q1 : (lo == 0) = false := by simp [q]
      rw [decide_eq_false q]
      clear q
      go_enter Tryz.func96, Tryz.ntmps96
      go_wp2
      go_ret
      exact ⟨by first | rfl | simp, by go_grown⟩
    have q1 : (lo == 0) = true := by simp [q]
    rw [decide_eq_true q]
    clear q
    by_cases q : hi = 0
    · have q2 : (hi == 0) = true := by simp [q]
      rw [decide_eq_true q]
      clear q
      go_enter Tryz.func96, Tryz.ntmps96
      go_wp2
      go_ret
      exact ⟨by first | rfl | simp, by go_grown⟩
    · have q2 : (hi == 0) = false := by simp [q]
      rw [decide_eq_false q]
      clear q
      go_enter Tryz.func96, Tryz.ntmps96
      go_wp2
      go_ret
      exact ⟨by first | rfl | simp, by go_grown⟩
  · rw [if_neg (by decide), if_neg (by decide), if_neg (by decide)]
    clear g6 g7 H1
    by_cases q : lo = 0
    case neg =>
      have q1 : (lo == 0) = false := by simp [q]
      rw [decide_eq_false q]
      clear q
      go_enter Tryz.func96, Tryz.ntmps96
      go_wp2
      go_ret
      exact ⟨by first | rfl | simp, by go_grown⟩
    have q1 : (lo == 0) = true := by simp [q]
    rw [decide_eq_true q]
    clear q
    by_cases q : hi = 0
    · have q2 : (hi == 0) = true := by simp [q]
      rw [decide_eq_true q]
      clear q
      go_enter Tryz.func96, Tryz.ntmps96
      go_wp2
      go_ret
      exact ⟨by first | rfl | simp, by go_grown⟩
    · have q2 : (hi == 0) = false := by simp [q]
      rw [decide_eq_false q]
      clear q
      go_enter Tryz.func96, Tryz.ntmps96
      go_wp2
      go_ret
      exact ⟨by first | rfl | simp, by go_grown⟩
  · rw [if_neg (by decide), if_neg (by decide), if_neg (by decide)]
    clear g6 g7 H1
    by_cases q : lo = 0
    case neg =>
      have q1 : (lo == 0) = false := by simp [q]
      rw [decide_eq_false q]
      clear q
      go_enter Tryz.func96, Tryz.ntmps96
      go_wp2
      go_ret
      exact ⟨by first | rfl | simp, by go_grown⟩
    have q1 : (lo == 0) = true := by simp [q]
    rw [decide_eq_true q]
    clear q
    by_cases q : hi = 0
    · have q2 : (hi == 0) = true := by simp [q]
      rw [decide_eq_true q]
      clear q
      go_enter Tryz.func96, Tryz.ntmps96
      go_wp2
      go_ret
      exact ⟨by first | rfl | simp, by go_grown⟩
    · have q2 : (hi == 0) = false := by simp [q]
      rw [decide_eq_false q]
      clear q
      go_enter Tryz.func96, Tryz.ntmps96
      go_wp2
      go_ret
      exact ⟨by first | rfl | simp, by go_grown⟩
  · rw [if_neg (by decide), if_neg (by decide), if_neg (by decide)]
    clear g6 g7 H1
    by_cases q : lo = 0
    case neg =>
      have q1 : (lo == 0) = false := by simp [q]
      rw [decide_eq_false q]
      clear q
      go_enter Tryz.func96, Tryz.ntmps96
      go_wp2
      go_ret
      exact ⟨by first | rfl | simp, by go_grown⟩
    have q1 : (lo == 0) = true := by simp [q]
    rw [decide_eq_true q]
    clear q
    by_cases q : hi = 0
    · have q2 : (hi == 0) = true := by simp [q]
      rw [decide_eq_true q]
      clear q
      go_enter Tryz.func96, Tryz.ntmps96
      go_wp2
      go_ret
      exact ⟨by first | rfl | simp, by go_grown⟩
    · have q2 : (hi == 0) = false := by simp [q]
      rw [decide_eq_false q]
      clear q
      go_enter Tryz.func96, Tryz.ntmps96
      go_wp2
      go_ret
      exact ⟨by first | rfl | simp, by go_grown⟩
  · rw [if_neg (by decide), if_neg (by decide), if_neg (by decide)]
    clear g6 g7 H1
    by_cases q : lo = 0
    case neg =>
      have q1 : (lo == 0) = false := by simp [q]
      rw [decide_eq_false q]
      clear q
      go_enter Tryz.func96, Tryz.ntmps96
      go_wp2
      go_ret
      exact ⟨by first | rfl | simp, by go_grown⟩
    have q1 : (lo == 0) = true := by simp [q]
    rw [decide_eq_true q]
    clear q
    by_cases q : hi = 0
    · have q2 : (hi == 0) = true := by simp [q]
      rw [decide_eq_true q]
      clear q
      go_enter Tryz.func96, Tryz.ntmps96
      go_wp2
      go_ret
      exact ⟨by first | rfl | simp, by go_grown⟩
    · have q2 : (hi == 0) = false := by simp [q]
      rw [decide_eq_false q]
      clear q
      go_enter Tryz.func96, Tryz.ntmps96
      go_wp2
      go_ret
      exact ⟨by first | rfl | simp, by go_grown⟩
  · rw [if_neg (by decide), if_neg (by decide), if_neg (by decide)]
    clear g6 g7 H1
    by_cases q : lo = 0
    case neg =>
      have q1 : (lo == 0) = false := by simp [q]
      rw [decide_eq_false q]
      clear q
      go_enter Tryz.func96, Tryz.ntmps96
      go_wp2
      go_ret
      exact ⟨by first | rfl | simp, by go_grown⟩
    have q1 : (lo == 0) = true := by simp [q]
    rw [decide_eq_true q]
    clear q
    by_cases q : hi = 0
    · have q2 : (hi == 0) = true := by simp [q]
      rw [decide_eq_true q]
      clear q
      go_enter Tryz.func96, Tryz.ntmps96
      go_wp2
      go_ret
      exact ⟨by first | rfl | simp, by go_grown⟩
    · have q2 : (hi == 0) = false := by simp [q]
      rw [decide_eq_false q]
      clear q
      go_enter Tryz.func96, Tryz.ntmps96
      go_wp2
      go_ret
      exact ⟨by first | rfl | simp, by go_grown⟩
end Go.Proofs.YtdcjngakmkgbmaaGreat
