/- What is below zero, and what turned bit rows are; no statement of the seat is proved here. -/
import Derived.Test.YtkanhbokdjppoaaGreatDoorRecW
import Derived.Test.YtkanhbokdjppoaaGreatDoorZerV
import Derived.Test.YtkanhbokdjppoaaGreatDoorRotP
import Derived.Test.YtkanhbokdjppoaaGreatDoorStdA
import Derived.Deep.RegionHeld3
import Derived.Deep.DeepCutAuto
namespace Go.Proofs.YtkanhbokdjppoaaGreatDoor
set_option linter.unusedVariables false
open Go.RowKit
section
variable (k b c : Int) (s t : ByteArray) (w : World)
theorem may_zero (h : 2 ≤ k ∧ k ≤ 13) : may3 k 0 E0 = true := by
  have : k = 2 ∨ k = 3 ∨ k = 4 ∨ k = 5 ∨ k = 6 ∨ k = 7 ∨ k = 8 ∨ k = 9 ∨ k = 10 ∨ k = 11 ∨ k = 12 ∨ k = 13 := by omega
  rcases this with rfl | rfl | rfl | rfl | rfl | rfl | rfl | rfl | rfl | rfl | rfl | rfl <;> simp [may3, mayW, sg]
theorem cL_zero (h : 2 ≤ k ∧ k ≤ 9) : cL k b 0 s t = decide (num k b < 0) := by
  have z : num k 0 = 0 := by unfold num wrap64; split <;> rfl
  unfold cL
  rw [if_neg (by omega), if_neg (by omega), z]
  unfold cmpI
  by_cases a : num k b < 0
  · simp [a]
  · by_cases d : 0 < num k b
    · simp [a, d]
    · simp [a, d]
set_option maxHeartbeats 1000000 in
theorem holdsS_lt (h0 : 0 ≤ b) (h1 : b < 18446744073709551616) (hk : 0 ≤ k ∧ k < 256) (hs : s.size ≤ maxLen) (g0 : 0 ≤ c) (g1 : c < 18446744073709551616) (gs : t.size ≤ maxLen) (m : may3 k b s = true) (n : may3 k c t = true) :
    Calls Tryz.prog 105 #[.int .i64 11, V k b s, V k c t] w fun e w' => e = .returned (.bool (cL k b c s t)) ∧ Below w.heap.size w w' := by
  have R : Hid _ := fun w => Reckon_c 11 k b c s t w (by omega) h0 h1 hk hs g0 g1 gs m n
  have B : Hid (∀ w, Calls Tryz.prog 106 #[.bool true] w fun e w' => e = .returned (V 1 1 E0) ∧ Below w.heap.size w w') := Bool_of true
  clear m n
  have T1 : tb true = 1 := rfl
  have T0 : tb false = 0 := rfl
  cases p : cL k b c s t
  all_goals
    have e : Hid (hB 11 k b c s t = _) := p
    clear p
    go_enter Tryz.func105, Tryz.ntmps105
    go_wp2_with (first | (go_at_call 100; refine (R.out _).mono ?_; rintro e w1 ⟨rfl, hb⟩; rw [e.out]; (first | rw [T0] | rw [T1]); have HB : Hid _ := hb; clear hb))
    refine wp_region_sub2 (by kernel_rfl) (by kernel_rfl) ?_
    intro cx
    repeat (first | go_big_quiet_skip | (go_big_quiet_want; go_big_quiet_op; first | go_big_quiet_on | (refine ⟨_, fun _ => rfl, ?_⟩; go_big_quiet_on) | go_big_quiet_call (first | (go_at_call 106; exact calls_sub (B.out _)))))
    refine wpQuiet_nil ?_
    rintro _ ⟨y, rfl⟩
    have Y : Hid (Below w.heap.size w y.w) := ((((Below.refl _ _).alloc (Nat.le_refl _) _).alloc (by simp) _).trans (HB.out.mono (by simp; omega))).trans ((((Below.refl _ _).alloc (Nat.le_refl _) _).trans (y.h.mono (by simp))).mono (by have := HB.out.size; simp at this; omega))
    clear cx
    go_wp2
    go_ret
    exact ⟨rfl, Y.out⟩
set_option maxHeartbeats 1000000 in
theorem isBelowZero_of (h0 : 0 ≤ b) (h1 : b < 18446744073709551616) (hk : 2 ≤ k ∧ k ≤ 9) (hs : s.size ≤ maxLen) (m : may3 k b s = true) :
    Calls Tryz.prog 111 #[V k b s] w fun e w' => e = .returned (.bool (decide (num k b < 0))) ∧ Below w.heap.size w w' := by
  have H : Hid (∀ w, Calls Tryz.prog 105 #[.int .i64 11, V k b s, V k 0 E0] w fun e w' => e = .returned (.bool (decide (num k b < 0))) ∧ Below w.heap.size w w') := by
    intro w
    have := holdsS_lt k b 0 s E0 w h0 h1 (by omega) hs (by omega) (by omega) (by decide) m (may_zero k (by omega))
    rwa [cL_zero k b s E0 hk] at this
  have Z : Hid (∀ w, Calls Tryz.prog 149 #[.int .u8 k] w fun e w' => e = .returned (V k 0 E0) ∧ Below w.heap.size w w') := by
    intro w
    have := Zero_of k w
    rwa [show zeroK k = k by unfold zeroK; rw [if_pos (by omega)]] at this
  clear m
  generalize decide (num k b < 0) = p at *
  go_enter Tryz.func111, Tryz.ntmps111
  go_wp2_with fail
  refine wp_region_sub2 (by kernel_rfl) (by kernel_rfl) ?_
  intro cx
  repeat (first | go_big_quiet_skip | (go_big_quiet_want; go_big_quiet_op; first | go_big_quiet_on | (refine ⟨_, fun _ => rfl, ?_⟩; go_big_quiet_on) | go_big_quiet_call (first | (go_at_call 149; exact calls_sub (Z.out _)) | (go_at_call 105; exact calls_sub (H.out _)))))
  refine wpQuiet_nil ?_
  rintro _ ⟨y, rfl⟩
  have Y : Hid (Below w.heap.size w y.w) := ((Below.refl _ _).alloc (Nat.le_refl _) _).trans (y.h.mono (by simp))
  clear cx
  go_wp2
  go_ret
  exact ⟨rfl, Y.out⟩
end
section
variable (r : Int) (wd by_ : Nat) (w : World)
set_option maxHeartbeats 1000000 in
theorem round_of (hb : by_ ≤ wd) (hw : wd ≤ 64) :
    Calls Tryz.prog 118 #[.int .u64 r, .int .u64 wd, .int .u64 by_] w fun e w' => e = .returned (.int .u64 (bits .or .u64 (IntKind.u64.wrap (r * 2 ^ by_)) (r / 2 ^ (wd - by_)))) ∧ w' = w := by
  go_enter Tryz.func118, Tryz.ntmps118
  go_wp2
  go_ret
  exact ⟨rfl, rfl⟩
/-- What a turned row is ahead of the cut. -/
def rndI (r : Int) (wd by_ : Nat) : Int := bits .or .u64 (IntKind.u64.wrap (r * 2 ^ by_)) (r / 2 ^ (wd - by_))
theorem round_is (z : Int) (hz : z = by_) (hb : by_ ≤ wd) (hw : wd ≤ 64) :
    Calls Tryz.prog 118 #[.int .u64 r, .int .u64 wd, .int .u64 z] w fun e w' => e = .returned (.int .u64 (rndI r wd by_)) ∧ w' = w := by subst hz; exact round_of r wd by_ w hb hw
set_option maxHeartbeats 1000000 in
theorem turnLeft1_of (h0 : 0 < wd) (hw : wd ≤ 64) :
    Calls Tryz.prog 117 #[.int .u64 r, .int .u64 wd, .int .u64 by_] w fun e w' => e = .returned (.int .u64 (rndI r wd (by_ % wd))) ∧ w' = w := by
  have l := Nat.mod_lt by_ h0
  have hz : ((wd : Int) == 0) = false := by simp; omega
  have C : Hid (∀ z : Int, z = ((by_ % wd : Nat) : Int) → Calls Tryz.prog 118 #[.int .u64 r, .int .u64 wd, .int .u64 z] w fun e w' => e = .returned (.int .u64 (rndI r wd (by_ % wd))) ∧ w' = w) := fun z hz => round_is r wd _ w z hz (by omega) hw
  clear l
  go_enter Tryz.func117, Tryz.ntmps117
  go_wp2_with (first | (go_at_call 118; refine (C.out _ (by rw [Int.natCast_emod])).mono ?_; rintro e w1 ⟨rfl, rfl⟩))
  go_ret
  exact ⟨rfl, rfl⟩
set_option maxHeartbeats 1000000 in
theorem turnRight1_of (h0 : 0 < wd) (hw : wd ≤ 64) :
    Calls Tryz.prog 119 #[.int .u64 r, .int .u64 wd, .int .u64 by_] w fun e w' => e = .returned (.int .u64 (rndI r wd (wd - by_ % wd))) ∧ w' = w := by
  have l := Nat.mod_lt by_ h0
  have hz : ((wd : Int) == 0) = false := by simp; omega
  have C : Hid (∀ z : Int, z = ((wd - by_ % wd : Nat) : Int) → Calls Tryz.prog 118 #[.int .u64 r, .int .u64 wd, .int .u64 z] w fun e w' => e = .returned (.int .u64 (rndI r wd (wd - by_ % wd))) ∧ w' = w) := fun z hz => round_is r wd _ w z hz (by omega) hw
  have E : Hid (IntKind.u64.wrap ((wd : Int) - (by_ : Int) % wd) = ((wd - by_ % wd : Nat) : Int)) := by
    show IntKind.u64.wrap ((wd : Int) - (by_ : Int) % wd) = ((wd - by_ % wd : Nat) : Int)
    rw [show ((by_ : Int) % wd) = ((by_ % wd : Nat) : Int) by rw [Int.natCast_emod]]
    have : IntKind.u64.wrap ((wd : Int) - ((by_ % wd : Nat) : Int)) = ((wd : Int) - ((by_ % wd : Nat) : Int)) % 18446744073709551616 := rfl
    rw [this]
    generalize by_ % wd = q at *
    omega
  clear l
  go_enter Tryz.func119, Tryz.ntmps119
  go_wp2_with (first | (go_at_call 118; refine (C.out _ E.out).mono ?_; rintro e w1 ⟨rfl, rfl⟩))
  go_ret
  exact ⟨rfl, rfl⟩
end
/-- Two values in a row of their own. -/
structure A2 (w : World) (g : Nat) (u v : Vl) : Prop where
  c0 : w.cell? ⟨g, 0, none⟩ = some (.int .u8 u.k)
  c1 : w.cell? ⟨g, 1, none⟩ = some (.int .u64 u.b)
  c2 : w.cell? ⟨g, 2, none⟩ = some (.string u.s)
  c3 : w.cell? ⟨g, 3, none⟩ = some (.int .u8 v.k)
  c4 : w.cell? ⟨g, 4, none⟩ = some (.int .u64 v.b)
  c5 : w.cell? ⟨g, 5, none⟩ = some (.string v.s)
theorem A2.below {w w' : World} {g : Nat} {u v : Vl} (h : A2 w g u v) (hb : Below w.heap.size w w') : A2 w' g u v := by
  have z := block_lt_of_cell h.c0
  exact ⟨(hb.cell (p := ⟨g, 0, none⟩) z).trans h.c0, (hb.cell (p := ⟨g, 1, none⟩) z).trans h.c1, (hb.cell (p := ⟨g, 2, none⟩) z).trans h.c2, (hb.cell (p := ⟨g, 3, none⟩) z).trans h.c3, (hb.cell (p := ⟨g, 4, none⟩) z).trans h.c4, (hb.cell (p := ⟨g, 5, none⟩) z).trans h.c5⟩
/-- A value in its box. -/
structure VB (w : World) (h : Nat) (k b : Int) (s : ByteArray) : Prop where
  c0 : w.cell? ⟨h, 0, none⟩ = some (.int .u8 k)
  c1 : w.cell? ⟨h, 1, none⟩ = some (.int .u64 b)
  c2 : w.cell? ⟨h, 2, none⟩ = some (.string s)
  f0 : w.frozen? ⟨h, 0, none⟩ = false
  f1 : w.frozen? ⟨h, 1, none⟩ = false
  f2 : w.frozen? ⟨h, 2, none⟩ = false
theorem VB.below {w w' : World} {h : Nat} {k b : Int} {s : ByteArray} (a : VB w h k b s) (hb : Below w.heap.size w w') : VB w' h k b s := by
  have z := block_lt_of_cell a.c0
  exact ⟨(hb.cell (p := ⟨h, 0, none⟩) z).trans a.c0, (hb.cell (p := ⟨h, 1, none⟩) z).trans a.c1, (hb.cell (p := ⟨h, 2, none⟩) z).trans a.c2, (hb.frozen (p := ⟨h, 0, none⟩) z).trans a.f0, (hb.frozen (p := ⟨h, 1, none⟩) z).trans a.f1, (hb.frozen (p := ⟨h, 2, none⟩) z).trans a.f2⟩
section
variable (g cap f : Nat) (k b l c : Int) (s t : ByteArray) (w : World)
set_option maxHeartbeats 1000000 in
theorem moveBits_neg (ha : A2 w g ⟨k, b, s⟩ ⟨l, c, t⟩) (h0 : 0 ≤ c) (h1 : c < 18446744073709551616) (hk : 2 ≤ l ∧ l ≤ 9) (hs : t.size ≤ maxLen) (m : may3 l c t = true) (hn : num l c < 0) :
    Calls Tryz.prog 114 #[.slice (some ⟨g, 0, none⟩) 2 cap, .func (.func f) #[] #[]] w fun e w' => e = .returned (.tuple #[V 0 0 E0, .int .i64 3]) ∧ Below w.heap.size w w' := by
  have B : Hid (∀ w, Calls Tryz.prog 111 #[V l c t] w fun e w' => e = .returned (.bool true) ∧ Below w.heap.size w w') := by
    intro w; have := isBelowZero_of l c t w h0 h1 hk hs m; rwa [decide_eq_true hn] at this
  obtain ⟨c0, c1, c2, c3, c4, c5⟩ := ha
  have zg : g < w.heap.size := block_lt_of_cell c0
  clear m hn
  go_enter Tryz.func114, Tryz.ntmps114
  go_wp2_with fail
  have gr : Hid (Below w.heap.size w (w.alloc (.cells #[.int .u8 0, .int .u64 0, .string ⟨#[]⟩] 38))) := (Below.refl _ _).alloc (Nat.le_refl _) _
  have rb : Hid (VB (w.alloc (.cells #[.int .u8 0, .int .u64 0, .string ⟨#[]⟩] 38)) w.heap.size 0 0 E0) := ⟨by simp, by simp, by simp, by simp, by simp, by simp⟩
  have c0 := (gr.out.cell (p := ⟨g, 0, none⟩) zg).trans c0
  have c1 := (gr.out.cell (p := ⟨g, 1, none⟩) zg).trans c1
  have c2 := (gr.out.cell (p := ⟨g, 2, none⟩) zg).trans c2
  have c3 := (gr.out.cell (p := ⟨g, 3, none⟩) zg).trans c3
  have c4 := (gr.out.cell (p := ⟨g, 4, none⟩) zg).trans c4
  have c5 := (gr.out.cell (p := ⟨g, 5, none⟩) zg).trans c5
  generalize (w.alloc (.cells #[.int .u8 0, .int .u64 0, .string ⟨#[]⟩] 38)) = W at *
  have e1 := World.new_ne W ⟨g, 0, none⟩ c0
  go_cut [6, 7] (fun s6 s7 wx => ∃ h6 h7, s6 = .pointer (some ⟨h6, 0, none⟩) ∧ s7 = .pointer (some ⟨h7, 0, none⟩) ∧ VB wx h6 k b s ∧ VB wx h7 l c t ∧ W.heap.size ≤ h6 ∧ W.heap.size ≤ h7 ∧ h6 ≠ h7 ∧ Below W.heap.size W wx)
  case first =>
    go_region_held3 (fun w' => w'.cell? ⟨g, 0, none⟩ = some (.int .u8 k) ∧ w'.cell? ⟨g, 1, none⟩ = some (.int .u64 b) ∧ w'.cell? ⟨g, 2, none⟩ = some (.string s) ∧ w'.cell? ⟨g, 3, none⟩ = some (.int .u8 l) ∧ w'.cell? ⟨g, 4, none⟩ = some (.int .u64 c) ∧ w'.cell? ⟨g, 5, none⟩ = some (.string t)) (go_keep) (fail)
    all_goals
      go_wp2_with fail
      go_meet
      case rel => exact ⟨_, _, rfl, rfl, ⟨by simp, by simp, by simp, by simp, by simp, by simp⟩, ⟨by simp, by simp, by simp, by simp, by simp, by simp⟩, by omega, by omega, by omega, (((Below.refl _ _).alloc (Nat.le_refl _) _).alloc (by simp) _).drew⟩
  case rest =>
    obtain ⟨h6, h7, rfl, rfl, v6, v7, l6, l7, ne, hb⟩ := hcut
    have zW : w.heap.size < W.heap.size := block_lt_of_cell rb.out.c0
    have RB : Hid (VB wc w.heap.size 0 0 E0) := rb.out.below hb
    have HB : Hid (Below W.heap.size W wc) := hb
    have V6 : Hid (VB wc h6 k b s) := v6
    have V7 : Hid (VB wc h7 l c t) := v7
    have y6 : h6 < wc.heap.size := block_lt_of_cell v6.c0
    have y7 : h7 < wc.heap.size := block_lt_of_cell v7.c0
    obtain ⟨a0, a1, a2, a3, a4, a5⟩ := v7
    clear hb v6 c0 c1 c2 c3 c4 c5 e1
    clear rb
    go_wp2_with (first | (go_at_call 111; refine (B.out _).mono ?_; rintro e w4 ⟨rfl, hb4⟩; have HB4 : Hid (Below wc.heap.size wc w4) := hb4; obtain ⟨r0, r1, r2, r3, r4, r5⟩ := RB.out.below hb4; clear hb4))
    have BB : Hid (Below w.heap.size w w4) := (gr.out.trans (HB.out.mono (by omega))).trans (HB4.out.mono (by have := HB.out.size; omega))
    exact bodyPost_ret (v := .tuple #[V 0 0 E0, .int .i64 3]) (by simp [results, Tryz.results114, go_sem, r0, r1, r2]) rfl ⟨rfl, ((BB.out.setCell (by simp) _).setCell (by simp) _).setCell (by simp) _⟩
/-- How many bits a row of a kind has. -/
def wdK (k : Int) : Nat := if k = 10 then 8 else if k = 11 then 16 else if k = 12 then 32 else 64
set_option maxHeartbeats 4000000 in
theorem moveBits_yes (R : Int) (hkk : k = 10 ∨ k = 11 ∨ k = 12 ∨ k = 13) (ha : A2 w g ⟨k, b, s⟩ ⟨l, c, t⟩) (h0 : 0 ≤ c) (h1 : c < 18446744073709551616) (hk : 2 ≤ l ∧ l ≤ 9) (hs : t.size ≤ maxLen) (m : may3 l c t = true) (hn : ¬ num l c < 0)
    (hM : ∀ w, Calls Tryz.prog f #[.int .u64 b, .int .u64 (wdK k), .int .u64 c] w fun e w' => e = .returned (.int .u64 R) ∧ w' = w)
    (hC : ∀ args w, (callFunc f args).run Tryz.prog w = .ok (.enter f args) w) :
    Calls Tryz.prog 114 #[.slice (some ⟨g, 0, none⟩) 2 cap, .func (.func f) #[] #[]] w fun e w' => e = .returned (.tuple #[V k (bits .and .u64 R ((2 ^ wdK k - 1 : Nat) : Int)) s, .int .i64 0]) ∧ Below w.heap.size w w' := by
  have B : Hid (∀ w, Calls Tryz.prog 111 #[V l c t] w fun e w' => e = .returned (.bool false) ∧ Below w.heap.size w w') := by
    intro w; have := isBelowZero_of l c t w h0 h1 hk hs m; rwa [decide_eq_false hn] at this
  obtain ⟨c0, c1, c2, c3, c4, c5⟩ := ha
  have zg : g < w.heap.size := block_lt_of_cell c0
  have HM : Hid _ := hM
  clear m hn hM
  go_enter Tryz.func114, Tryz.ntmps114
  go_wp2_with fail
  have gr : Hid (Below w.heap.size w (w.alloc (.cells #[.int .u8 0, .int .u64 0, .string ⟨#[]⟩] 38))) := (Below.refl _ _).alloc (Nat.le_refl _) _
  have rb : Hid (VB (w.alloc (.cells #[.int .u8 0, .int .u64 0, .string ⟨#[]⟩] 38)) w.heap.size 0 0 E0) := ⟨by simp, by simp, by simp, by simp, by simp, by simp⟩
  have c0 := (gr.out.cell (p := ⟨g, 0, none⟩) zg).trans c0
  have c1 := (gr.out.cell (p := ⟨g, 1, none⟩) zg).trans c1
  have c2 := (gr.out.cell (p := ⟨g, 2, none⟩) zg).trans c2
  have c3 := (gr.out.cell (p := ⟨g, 3, none⟩) zg).trans c3
  have c4 := (gr.out.cell (p := ⟨g, 4, none⟩) zg).trans c4
  have c5 := (gr.out.cell (p := ⟨g, 5, none⟩) zg).trans c5
  generalize (w.alloc (.cells #[.int .u8 0, .int .u64 0, .string ⟨#[]⟩] 38)) = W at *
  have e1 := World.new_ne W ⟨g, 0, none⟩ c0
  go_cut [6, 7] (fun s6 s7 wx => ∃ h6 h7, s6 = .pointer (some ⟨h6, 0, none⟩) ∧ s7 = .pointer (some ⟨h7, 0, none⟩) ∧ VB wx h6 k b s ∧ VB wx h7 l c t ∧ W.heap.size ≤ h6 ∧ W.heap.size ≤ h7 ∧ h6 ≠ h7 ∧ Below W.heap.size W wx)
  case first =>
    go_region_held3 (fun w' => w'.cell? ⟨g, 0, none⟩ = some (.int .u8 k) ∧ w'.cell? ⟨g, 1, none⟩ = some (.int .u64 b) ∧ w'.cell? ⟨g, 2, none⟩ = some (.string s) ∧ w'.cell? ⟨g, 3, none⟩ = some (.int .u8 l) ∧ w'.cell? ⟨g, 4, none⟩ = some (.int .u64 c) ∧ w'.cell? ⟨g, 5, none⟩ = some (.string t)) (go_keep) (fail)
    all_goals
      go_wp2_with fail
      go_meet
      case rel => exact ⟨_, _, rfl, rfl, ⟨by simp, by simp, by simp, by simp, by simp, by simp⟩, ⟨by simp, by simp, by simp, by simp, by simp, by simp⟩, by omega, by omega, by omega, (((Below.refl _ _).alloc (Nat.le_refl _) _).alloc (by simp) _).drew⟩
  case rest =>
    obtain ⟨h6, h7, rfl, rfl, v6, v7, l6, l7, ne, hb⟩ := hcut
    have zW : w.heap.size < W.heap.size := block_lt_of_cell rb.out.c0
    have RB : Hid (VB wc w.heap.size 0 0 E0) := rb.out.below hb
    have HB : Hid (Below W.heap.size W wc) := hb
    have V6 : Hid (VB wc h6 k b s) := v6
    have V7 : Hid (VB wc h7 l c t) := v7
    have y6 : h6 < wc.heap.size := block_lt_of_cell v6.c0
    have y7 : h7 < wc.heap.size := block_lt_of_cell v7.c0
    obtain ⟨a0, a1, a2, a3, a4, a5⟩ := v7
    clear hb v6 c0 c1 c2 c3 c4 c5 e1
    clear rb
    go_wp2_with (first | (go_at_call 111; refine (B.out _).mono ?_; rintro e w4 ⟨rfl, hb4⟩; have HB4 : Hid (Below wc.heap.size wc w4) := hb4; obtain ⟨r0, r1, r2, r3, r4, r5⟩ := RB.out.below hb4; obtain ⟨p0, p1, p2, p3, p4, p5⟩ := V6.out.below hb4;  obtain ⟨b0, b1, b2, b3, b4, b5⟩ := V7.out.below hb4; clear hb4))
    have E : IntKind.u64.wrap (8 * 2 ^ (k - 10).toNat) = ((wdK k : Nat) : Int) := by rcases hkk with rfl | rfl | rfl | rfl <;> rfl
    have E64 : wdK k ≤ 64 := by rcases hkk with rfl | rfl | rfl | rfl <;> decide
    rw [E]
    refine (HM.out _).mono ?_
    rintro e w5 ⟨rfl, rfl⟩
    have EM : Hid (IntKind.u64.wrap (IntKind.u64.wrap (2 ^ wdK k) - 1) = ((2 ^ wdK k - 1 : Nat) : Int)) := by rcases hkk with rfl | rfl | rfl | rfl <;> rfl
    have BB : Hid (Below w.heap.size w w5) := (gr.out.trans (HB.out.mono (by omega))).trans (HB4.out.mono (by have := HB.out.size; omega))
    have EV : Hid (∃ n, wdK k = n) := ⟨_, rfl⟩
    generalize hn : wdK k = n at EM E64
    have HN : Hid (wdK k = n) := hn
    clear E HM hn EV
    go_wp2
    exact bodyPost_ret (v := .tuple #[V k (bits .and .u64 R (IntKind.u64.wrap (IntKind.u64.wrap (2 ^ n) - 1))) s, .int .i64 0]) (by simp [results, Tryz.results114, go_sem, r0, r1, r2]) rfl ⟨by rw [EM.out, HN.out], (((BB.out.setCell (by simp; omega) _).setCell (by simp) _).setCell (by simp) _).setCell (by simp) _⟩
end
end Go.Proofs.YtkanhbokdjppoaaGreatDoor
