/- What CONCAT gives; no statement of the seat is proved here. -/
import Derived.Test.YtpaibmganlaaeaaGreatDoorFz01
import Derived.Test.YtpaibmganlaaeaaGreatDoorFz06
import Derived.Test.YtpaibmganlaaeaaGreatDoorFz03
import Derived.Test.YtpaibmganlaaeaaGreatDoorFz02
import Derived.Deep.RegionHeld3
import Derived.Deep.DeepCutAuto
import Derived.Test.YtpaibmganlaaeaaGreatDoorFz10
import Derived.Lib.Builder
import Derived.Lib.AppendStr
import Derived.Laws.CopyOwn
import Derived.Test.YtpaibmganlaaeaaGreatDoorBs
namespace Go.Proofs.YtpaibmganlaaeaaGreatDoor
set_option linter.unusedVariables false
open Go.RowKit
/-- A row of w bits turned by b to the higher bits. -/
def rotN (w b r : Nat) : Nat := r % 2 ^ (w - b) * 2 ^ b + r / 2 ^ (w - b)
theorem rotN_lt (w b r : Nat) (hb : b ≤ w) (hr : r < 2 ^ w) : rotN w b r < 2 ^ w := by
  have e : 2 ^ w = 2 ^ (w - b) * 2 ^ b := by rw [← Nat.pow_add]; congr 1; omega
  have h1 : r % 2 ^ (w - b) < 2 ^ (w - b) := Nat.mod_lt _ (Nat.pow_pos (by omega))
  have h2 : r / 2 ^ (w - b) < 2 ^ b := by rw [Nat.div_lt_iff_lt_mul (Nat.pow_pos (by omega)), Nat.mul_comm, ← e]; exact hr
  have h3 : (r % 2 ^ (w - b) + 1) * 2 ^ b ≤ 2 ^ (w - b) * 2 ^ b := Nat.mul_le_mul_right _ h1
  rw [Nat.add_mul, Nat.one_mul, ← e] at h3
  unfold rotN; omega
theorem rotN_back (w b r : Nat) (hb : b ≤ w) (hr : r < 2 ^ w) : rotN w (w - b) (rotN w b r) = r := by
  have e : 2 ^ w = 2 ^ (w - b) * 2 ^ b := by rw [← Nat.pow_add]; congr 1; omega
  have h2 : r / 2 ^ (w - b) < 2 ^ b := by rw [Nat.div_lt_iff_lt_mul (Nat.pow_pos (by omega)), Nat.mul_comm, ← e]; exact hr
  unfold rotN
  rw [show w - (w - b) = b by omega, Nat.mul_comm _ (2 ^ b), Nat.mul_add_mod, Nat.mod_eq_of_lt h2, Nat.mul_add_div (Nat.pow_pos (by omega)), Nat.div_eq_of_lt h2, Nat.add_zero, Nat.mul_comm, Nat.div_add_mod]
theorem rot_or (w b r : Nat) (hb : b ≤ w) (hw : w ≤ 64) (hr : r < 2 ^ w) : ((r * 2 ^ b % 2 ^ 64) ||| (r / 2 ^ (w - b))) % 2 ^ w = rotN w b r := by
  have e : 2 ^ w = 2 ^ (w - b) * 2 ^ b := by rw [← Nat.pow_add]; congr 1; omega
  have h2 : r / 2 ^ (w - b) < 2 ^ b := by rw [Nat.div_lt_iff_lt_mul (Nat.pow_pos (by omega)), Nat.mul_comm, ← e]; exact hr
  have h3 : 2 ^ b ≤ 2 ^ w := Nat.pow_le_pow_right (by omega) hb
  rw [Nat.or_mod_two_pow, Nat.mod_mod_of_dvd _ (Nat.pow_dvd_pow 2 hw), Nat.mod_eq_of_lt (a := r / 2 ^ (w - b)) (by omega)]
  unfold rotN
  rw [e, Nat.mul_mod_mul_right, Nat.mul_comm _ (2 ^ b), Nat.two_pow_add_eq_or_of_lt h2]
theorem rot_int (w b : Nat) (r : Int) (hb : b ≤ w) (hw : w ≤ 64) (h0 : 0 ≤ r) (h1 : r < ((2 ^ w : Nat) : Int)) :
    bits .and .u64 (bits .or .u64 (IntKind.u64.wrap (r * 2 ^ b)) (r / 2 ^ (w - b))) ((2 ^ w - 1 : Nat) : Int) = rotN w b r.toNat := by
  obtain ⟨n, rfl⟩ : ∃ n : Nat, r = n := ⟨r.toNat, by omega⟩
  have h1' : n < 2 ^ w := by omega
  have hp : (2 : Nat) ^ w ≤ 2 ^ 64 := Nat.pow_le_pow_right (by omega) hw
  have hp0 : 0 < 2 ^ w := Nat.pow_pos (by omega)
  have e1 : IntKind.u64.wrap ((n : Int) * 2 ^ b) = ((n * 2 ^ b % 2 ^ 64 : Nat) : Int) := by
    have : IntKind.u64.wrap ((n : Int) * 2 ^ b) = ((n : Int) * 2 ^ b) % 18446744073709551616 := by rfl
    rw [this, Int.natCast_emod, Int.natCast_mul, Int.natCast_pow]; rfl
  have e2 : (n : Int) / 2 ^ (w - b) = ((n / 2 ^ (w - b) : Nat) : Int) := by rw [Int.natCast_ediv, Int.natCast_pow]; rfl
  have l1 : n * 2 ^ b % 2 ^ 64 < 2 ^ 64 := Nat.mod_lt _ (by omega)
  have l2 : n / 2 ^ (w - b) < 2 ^ 64 := Nat.lt_of_le_of_lt (Nat.div_le_self _ _) (by omega)
  have l3 := Nat.or_lt_two_pow l1 l2
  rw [e1, e2, u64_or_nat _ _ l1 l2, u64_and_nat _ _ l3 (by omega), Nat.and_two_pow_sub_one_eq_mod, rot_or w b n hb hw h1', Int.toNat_natCast]
end Go.Proofs.YtpaibmganlaaeaaGreatDoor
namespace Go.Proofs.YtpaibmganlaaeaaGreatDoor
set_option linter.unusedVariables false
open Go.RowKit
section
variable (k b c : Int) (s t : ByteArray) (w : World)
theorem may_zero (h : 2 ≤ k ∧ k ≤ 13) : may3 k 0 E0 = true := by
  have : k = 2 ∨ k = 3 ∨ k = 4 ∨ k = 5 ∨ k = 6 ∨ k = 7 ∨ k = 8 ∨ k = 9 ∨ k = 10 ∨ k = 11 ∨ k = 12 ∨ k = 13 := by omega
  rcases this with rfl | rfl | rfl | rfl | rfl | rfl | rfl | rfl | rfl | rfl | rfl | rfl <;> simp [may3, mayW, sg]
theorem cL_zero (h : 2 ≤ k ∧ k ≤ 9) : cL k b 0 s t = decide (num k b < 0) := by
  have z : num k 0 = 0 := by unfold num wrap64; split <;> rfl
  unfold cL
  rw [if_neg (by omega), if_neg (by omega), z]
  unfold cmpI
  by_cases a : num k b < 0
  · simp [a]
  · by_cases d : 0 < num k b
    · simp [a, d]
    · simp [a, d]
set_option maxHeartbeats 1000000 in
theorem holdsS_lt (h0 : 0 ≤ b) (h1 : b < 18446744073709551616) (hk : 0 ≤ k ∧ k < 256) (hs : s.size ≤ maxLen) (g0 : 0 ≤ c) (g1 : c < 18446744073709551616) (gs : t.size ≤ maxLen) (m : may3 k b s = true) (n : may3 k c t = true) :
    Calls Tryz.prog 91 #[.int .i64 11, V k b s, V k c t] w fun e w' => e = .returned (.bool (cL k b c s t)) ∧ Below w.heap.size w w' := by
  have R : Hid _ := fun w => Reckon_c 11 k b c s t w (by omega) h0 h1 hk hs g0 g1 gs m n
  have B : Hid (∀ w, Calls Tryz.prog 92 #[.bool true] w fun e w' => e = .returned (V 1 1 E0) ∧ Below w.heap.size w w') := Bool_of true
  clear m n
  have T1 : tb true = 1 := rfl
  have T0 : tb false = 0 := rfl
  cases p : cL k b c s t
  all_goals
    have e : Hid (hB 11 k b c s t = _) := p
    clear p
    go_enter Tryz.func91, Tryz.ntmps91
    go_wp2_with (first | (go_at_call 86; refine (R.out _).mono ?_; rintro e w1 ⟨rfl, hb⟩; rw [e.out]; (first | rw [T0] | rw [T1]); have HB : Hid _ := hb; clear hb))
    refine wp_region_sub2 (by kernel_rfl) (by kernel_rfl) ?_
    intro cx
    repeat (first | go_big_quiet_skip | (go_big_quiet_want; go_big_quiet_op; first | go_big_quiet_on | (refine ⟨_, fun _ => rfl, ?_⟩; go_big_quiet_on) | go_big_quiet_call (first | (go_at_call 92; exact calls_sub (B.out _)))))
    refine wpQuiet_nil ?_
    rintro _ ⟨y, rfl⟩
    have Y : Hid (Below w.heap.size w y.w) := ((((Below.refl _ _).alloc (Nat.le_refl _) _).alloc (by simp) _).trans (HB.out.mono (by simp; omega))).trans ((((Below.refl _ _).alloc (Nat.le_refl _) _).trans (y.h.mono (by simp))).mono (by have := HB.out.size; simp at this; omega))
    clear cx
    go_wp2
    go_ret
    exact ⟨rfl, Y.out⟩
set_option maxHeartbeats 1000000 in
theorem isBelowZero_of (h0 : 0 ≤ b) (h1 : b < 18446744073709551616) (hk : 2 ≤ k ∧ k ≤ 9) (hs : s.size ≤ maxLen) (m : may3 k b s = true) :
    Calls Tryz.prog 97 #[V k b s] w fun e w' => e = .returned (.bool (decide (num k b < 0))) ∧ Below w.heap.size w w' := by
  have H : Hid (∀ w, Calls Tryz.prog 91 #[.int .i64 11, V k b s, V k 0 E0] w fun e w' => e = .returned (.bool (decide (num k b < 0))) ∧ Below w.heap.size w w') := by
    intro w
    have := holdsS_lt k b 0 s E0 w h0 h1 (by omega) hs (by omega) (by omega) (by decide) m (may_zero k (by omega))
    rwa [cL_zero k b s E0 hk] at this
  have Z : Hid (∀ w, Calls Tryz.prog 131 #[.int .u8 k] w fun e w' => e = .returned (V k 0 E0) ∧ Below w.heap.size w w') := by
    intro w
    have := Zero_of k w
    rwa [show zeroK k = k by unfold zeroK; rw [if_pos (by omega)]] at this
  clear m
  generalize decide (num k b < 0) = p at *
  go_enter Tryz.func97, Tryz.ntmps97
  go_wp2_with fail
  refine wp_region_sub2 (by kernel_rfl) (by kernel_rfl) ?_
  intro cx
  repeat (first | go_big_quiet_skip | (go_big_quiet_want; go_big_quiet_op; first | go_big_quiet_on | (refine ⟨_, fun _ => rfl, ?_⟩; go_big_quiet_on) | go_big_quiet_call (first | (go_at_call 131; exact calls_sub (Z.out _)) | (go_at_call 91; exact calls_sub (H.out _)))))
  refine wpQuiet_nil ?_
  rintro _ ⟨y, rfl⟩
  have Y : Hid (Below w.heap.size w y.w) := ((Below.refl _ _).alloc (Nat.le_refl _) _).trans (y.h.mono (by simp))
  clear cx
  go_wp2
  go_ret
  exact ⟨rfl, Y.out⟩
end
section
variable (r : Int) (wd by_ : Nat) (w : World)
set_option maxHeartbeats 1000000 in
theorem round_of (hb : by_ ≤ wd) (hw : wd ≤ 64) :
    Calls Tryz.prog 104 #[.int .u64 r, .int .u64 wd, .int .u64 by_] w fun e w' => e = .returned (.int .u64 (bits .or .u64 (IntKind.u64.wrap (r * 2 ^ by_)) (r / 2 ^ (wd - by_)))) ∧ w' = w := by
  go_enter Tryz.func104, Tryz.ntmps104
  go_wp2
  go_ret
  exact ⟨rfl, rfl⟩
/-- What a turned row is ahead of the cut. -/
def rndI (r : Int) (wd by_ : Nat) : Int := bits .or .u64 (IntKind.u64.wrap (r * 2 ^ by_)) (r / 2 ^ (wd - by_))
theorem round_is (z : Int) (hz : z = by_) (hb : by_ ≤ wd) (hw : wd ≤ 64) :
    Calls Tryz.prog 104 #[.int .u64 r, .int .u64 wd, .int .u64 z] w fun e w' => e = .returned (.int .u64 (rndI r wd by_)) ∧ w' = w := by subst hz; exact round_of r wd by_ w hb hw
set_option maxHeartbeats 1000000 in
theorem turnLeft1_of (h0 : 0 < wd) (hw : wd ≤ 64) :
    Calls Tryz.prog 103 #[.int .u64 r, .int .u64 wd, .int .u64 by_] w fun e w' => e = .returned (.int .u64 (rndI r wd (by_ % wd))) ∧ w' = w := by
  have l := Nat.mod_lt by_ h0
  have hz : ((wd : Int) == 0) = false := by simp; omega
  have C : Hid (∀ z : Int, z = ((by_ % wd : Nat) : Int) → Calls Tryz.prog 104 #[.int .u64 r, .int .u64 wd, .int .u64 z] w fun e w' => e = .returned (.int .u64 (rndI r wd (by_ % wd))) ∧ w' = w) := fun z hz => round_is r wd _ w z hz (by omega) hw
  clear l
  go_enter Tryz.func103, Tryz.ntmps103
  go_wp2_with (first | (go_at_call 104; refine (C.out _ (by rw [Int.natCast_emod])).mono ?_; rintro e w1 ⟨rfl, rfl⟩))
  go_ret
  exact ⟨rfl, rfl⟩
set_option maxHeartbeats 1000000 in
theorem turnRight1_of (h0 : 0 < wd) (hw : wd ≤ 64) :
    Calls Tryz.prog 105 #[.int .u64 r, .int .u64 wd, .int .u64 by_] w fun e w' => e = .returned (.int .u64 (rndI r wd (wd - by_ % wd))) ∧ w' = w := by
  have l := Nat.mod_lt by_ h0
  have hz : ((wd : Int) == 0) = false := by simp; omega
  have C : Hid (∀ z : Int, z = ((wd - by_ % wd : Nat) : Int) → Calls Tryz.prog 104 #[.int .u64 r, .int .u64 wd, .int .u64 z] w fun e w' => e = .returned (.int .u64 (rndI r wd (wd - by_ % wd))) ∧ w' = w) := fun z hz => round_is r wd _ w z hz (by omega) hw
  have E : Hid (IntKind.u64.wrap ((wd : Int) - (by_ : Int) % wd) = ((wd - by_ % wd : Nat) : Int)) := by
    show IntKind.u64.wrap ((wd : Int) - (by_ : Int) % wd) = ((wd - by_ % wd : Nat) : Int)
    rw [show ((by_ : Int) % wd) = ((by_ % wd : Nat) : Int) by rw [Int.natCast_emod]]
    have : IntKind.u64.wrap ((wd : Int) - ((by_ % wd : Nat) : Int)) = ((wd : Int) - ((by_ % wd : Nat) : Int)) % 18446744073709551616 := rfl
    rw [this]
    generalize by_ % wd = q at *
    omega
  clear l
  go_enter Tryz.func105, Tryz.ntmps105
  go_wp2_with (first | (go_at_call 104; refine (C.out _ E.out).mono ?_; rintro e w1 ⟨rfl, rfl⟩))
  go_ret
  exact ⟨rfl, rfl⟩
end
/-- Two values in a row of their own. -/
structure A2 (w : World) (g : Nat) (u v : Vl) : Prop where
  c0 : w.cell? ⟨g, 0, none⟩ = some (.int .u8 u.k)
  c1 : w.cell? ⟨g, 1, none⟩ = some (.int .u64 u.b)
  c2 : w.cell? ⟨g, 2, none⟩ = some (.string u.s)
  c3 : w.cell? ⟨g, 3, none⟩ = some (.int .u8 v.k)
  c4 : w.cell? ⟨g, 4, none⟩ = some (.int .u64 v.b)
  c5 : w.cell? ⟨g, 5, none⟩ = some (.string v.s)
theorem A2.below {w w' : World} {g : Nat} {u v : Vl} (h : A2 w g u v) (hb : Below w.heap.size w w') : A2 w' g u v := by
  have z := block_lt_of_cell h.c0
  exact ⟨(hb.cell (p := ⟨g, 0, none⟩) z).trans h.c0, (hb.cell (p := ⟨g, 1, none⟩) z).trans h.c1, (hb.cell (p := ⟨g, 2, none⟩) z).trans h.c2, (hb.cell (p := ⟨g, 3, none⟩) z).trans h.c3, (hb.cell (p := ⟨g, 4, none⟩) z).trans h.c4, (hb.cell (p := ⟨g, 5, none⟩) z).trans h.c5⟩
/-- A value in its box. -/
structure VB (w : World) (h : Nat) (k b : Int) (s : ByteArray) : Prop where
  c0 : w.cell? ⟨h, 0, none⟩ = some (.int .u8 k)
  c1 : w.cell? ⟨h, 1, none⟩ = some (.int .u64 b)
  c2 : w.cell? ⟨h, 2, none⟩ = some (.string s)
  f0 : w.frozen? ⟨h, 0, none⟩ = false
  f1 : w.frozen? ⟨h, 1, none⟩ = false
  f2 : w.frozen? ⟨h, 2, none⟩ = false
theorem VB.below {w w' : World} {h : Nat} {k b : Int} {s : ByteArray} (a : VB w h k b s) (hb : Below w.heap.size w w') : VB w' h k b s := by
  have z := block_lt_of_cell a.c0
  exact ⟨(hb.cell (p := ⟨h, 0, none⟩) z).trans a.c0, (hb.cell (p := ⟨h, 1, none⟩) z).trans a.c1, (hb.cell (p := ⟨h, 2, none⟩) z).trans a.c2, (hb.frozen (p := ⟨h, 0, none⟩) z).trans a.f0, (hb.frozen (p := ⟨h, 1, none⟩) z).trans a.f1, (hb.frozen (p := ⟨h, 2, none⟩) z).trans a.f2⟩
section
variable (g cap f : Nat) (k b l c : Int) (s t : ByteArray) (w : World)
set_option maxHeartbeats 1000000 in
theorem moveBits_neg (ha : A2 w g ⟨k, b, s⟩ ⟨l, c, t⟩) (h0 : 0 ≤ c) (h1 : c < 18446744073709551616) (hk : 2 ≤ l ∧ l ≤ 9) (hs : t.size ≤ maxLen) (m : may3 l c t = true) (hn : num l c < 0) :
    Calls Tryz.prog 100 #[.slice (some ⟨g, 0, none⟩) 2 cap, .func (.func f) #[] #[]] w fun e w' => e = .returned (.tuple #[V 0 0 E0, .int .i64 3]) ∧ Below w.heap.size w w' := by
  have B : Hid (∀ w, Calls Tryz.prog 97 #[V l c t] w fun e w' => e = .returned (.bool true) ∧ Below w.heap.size w w') := by
    intro w; have := isBelowZero_of l c t w h0 h1 hk hs m; rwa [decide_eq_true hn] at this
  obtain ⟨c0, c1, c2, c3, c4, c5⟩ := ha
  have zg : g < w.heap.size := block_lt_of_cell c0
  clear m hn
  go_enter Tryz.func100, Tryz.ntmps100
  go_wp2_with fail
  have gr : Hid (Below w.heap.size w (w.alloc (.cells #[.int .u8 0, .int .u64 0, .string ⟨#[]⟩] 27))) := (Below.refl _ _).alloc (Nat.le_refl _) _
  have rb : Hid (VB (w.alloc (.cells #[.int .u8 0, .int .u64 0, .string ⟨#[]⟩] 27)) w.heap.size 0 0 E0) := ⟨by simp, by simp, by simp, by simp, by simp, by simp⟩
  have c0 := (gr.out.cell (p := ⟨g, 0, none⟩) zg).trans c0
  have c1 := (gr.out.cell (p := ⟨g, 1, none⟩) zg).trans c1
  have c2 := (gr.out.cell (p := ⟨g, 2, none⟩) zg).trans c2
  have c3 := (gr.out.cell (p := ⟨g, 3, none⟩) zg).trans c3
  have c4 := (gr.out.cell (p := ⟨g, 4, none⟩) zg).trans c4
  have c5 := (gr.out.cell (p := ⟨g, 5, none⟩) zg).trans c5
  generalize (w.alloc (.cells #[.int .u8 0, .int .u64 0, .string ⟨#[]⟩] 27)) = W at *
  have e1 := World.new_ne W ⟨g, 0, none⟩ c0
  go_cut [6, 7] (fun s6 s7 wx => ∃ h6 h7, s6 = .pointer (some ⟨h6, 0, none⟩) ∧ s7 = .pointer (some ⟨h7, 0, none⟩) ∧ VB wx h6 k b s ∧ VB wx h7 l c t ∧ W.heap.size ≤ h6 ∧ W.heap.size ≤ h7 ∧ h6 ≠ h7 ∧ Below W.heap.size W wx)
  case first =>
    go_region_held3 (fun w' => w'.cell? ⟨g, 0, none⟩ = some (.int .u8 k) ∧ w'.cell? ⟨g, 1, none⟩ = some (.int .u64 b) ∧ w'.cell? ⟨g, 2, none⟩ = some (.string s) ∧ w'.cell? ⟨g, 3, none⟩ = some (.int .u8 l) ∧ w'.cell? ⟨g, 4, none⟩ = some (.int .u64 c) ∧ w'.cell? ⟨g, 5, none⟩ = some (.string t)) (go_keep) (fail)
    all_goals
      go_wp2_with fail
      go_meet
      case rel => exact ⟨_, _, rfl, rfl, ⟨by simp, by simp, by simp, by simp, by simp, by simp⟩, ⟨by simp, by simp, by simp, by simp, by simp, by simp⟩, by omega, by omega, by omega, (((Below.refl _ _).alloc (Nat.le_refl _) _).alloc (by simp) _).drew⟩
  case rest =>
    obtain ⟨h6, h7, rfl, rfl, v6, v7, l6, l7, ne, hb⟩ := hcut
    have zW : w.heap.size < W.heap.size := block_lt_of_cell rb.out.c0
    have RB : Hid (VB wc w.heap.size 0 0 E0) := rb.out.below hb
    have HB : Hid (Below W.heap.size W wc) := hb
    have V6 : Hid (VB wc h6 k b s) := v6
    have V7 : Hid (VB wc h7 l c t) := v7
    have y6 : h6 < wc.heap.size := block_lt_of_cell v6.c0
    have y7 : h7 < wc.heap.size := block_lt_of_cell v7.c0
    obtain ⟨a0, a1, a2, a3, a4, a5⟩ := v7
    clear hb v6 c0 c1 c2 c3 c4 c5 e1
    clear rb
    go_wp2_with (first | (go_at_call 97; refine (B.out _).mono ?_; rintro e w4 ⟨rfl, hb4⟩; have HB4 : Hid (Below wc.heap.size wc w4) := hb4; obtain ⟨r0, r1, r2, r3, r4, r5⟩ := RB.out.below hb4; clear hb4))
    have BB : Hid (Below w.heap.size w w4) := (gr.out.trans (HB.out.mono (by omega))).trans (HB4.out.mono (by have := HB.out.size; omega))
    exact bodyPost_ret (v := .tuple #[V 0 0 E0, .int .i64 3]) (by simp [results, Tryz.results100, go_sem, r0, r1, r2]) rfl ⟨rfl, ((BB.out.setCell (by simp) _).setCell (by simp) _).setCell (by simp) _⟩
/-- How many bits a row of a kind has. -/
def wdK (k : Int) : Nat := if k = 10 then 8 else if k = 11 then 16 else if k = 12 then 32 else 64
set_option maxHeartbeats 4000000 in
theorem moveBits_yes (R : Int) (hkk : k = 10 ∨ k = 11 ∨ k = 12 ∨ k = 13) (ha : A2 w g ⟨k, b, s⟩ ⟨l, c, t⟩) (h0 : 0 ≤ c) (h1 : c < 18446744073709551616) (hk : 2 ≤ l ∧ l ≤ 9) (hs : t.size ≤ maxLen) (m : may3 l c t = true) (hn : ¬ num l c < 0)
    (hM : ∀ w, Calls Tryz.prog f #[.int .u64 b, .int .u64 (wdK k), .int .u64 c] w fun e w' => e = .returned (.int .u64 R) ∧ w' = w)
    (hC : ∀ args w, (callFunc f args).run Tryz.prog w = .ok (.enter f args) w) :
    Calls Tryz.prog 100 #[.slice (some ⟨g, 0, none⟩) 2 cap, .func (.func f) #[] #[]] w fun e w' => e = .returned (.tuple #[V k (bits .and .u64 R ((2 ^ wdK k - 1 : Nat) : Int)) s, .int .i64 0]) ∧ Below w.heap.size w w' := by
  have B : Hid (∀ w, Calls Tryz.prog 97 #[V l c t] w fun e w' => e = .returned (.bool false) ∧ Below w.heap.size w w') := by
    intro w; have := isBelowZero_of l c t w h0 h1 hk hs m; rwa [decide_eq_false hn] at this
  obtain ⟨c0, c1, c2, c3, c4, c5⟩ := ha
  have zg : g < w.heap.size := block_lt_of_cell c0
  have HM : Hid _ := hM
  clear m hn hM
  go_enter Tryz.func100, Tryz.ntmps100
  go_wp2_with fail
  have gr : Hid (Below w.heap.size w (w.alloc (.cells #[.int .u8 0, .int .u64 0, .string ⟨#[]⟩] 27))) := (Below.refl _ _).alloc (Nat.le_refl _) _
  have rb : Hid (VB (w.alloc (.cells #[.int .u8 0, .int .u64 0, .string ⟨#[]⟩] 27)) w.heap.size 0 0 E0) := ⟨by simp, by simp, by simp, by simp, by simp, by simp⟩
  have c0 := (gr.out.cell (p := ⟨g, 0, none⟩) zg).trans c0
  have c1 := (gr.out.cell (p := ⟨g, 1, none⟩) zg).trans c1
  have c2 := (gr.out.cell (p := ⟨g, 2, none⟩) zg).trans c2
  have c3 := (gr.out.cell (p := ⟨g, 3, none⟩) zg).trans c3
  have c4 := (gr.out.cell (p := ⟨g, 4, none⟩) zg).trans c4
  have c5 := (gr.out.cell (p := ⟨g, 5, none⟩) zg).trans c5
  generalize (w.alloc (.cells #[.int .u8 0, .int .u64 0, .string ⟨#[]⟩] 27)) = W at *
  have e1 := World.new_ne W ⟨g, 0, none⟩ c0
  go_cut [6, 7] (fun s6 s7 wx => ∃ h6 h7, s6 = .pointer (some ⟨h6, 0, none⟩) ∧ s7 = .pointer (some ⟨h7, 0, none⟩) ∧ VB wx h6 k b s ∧ VB wx h7 l c t ∧ W.heap.size ≤ h6 ∧ W.heap.size ≤ h7 ∧ h6 ≠ h7 ∧ Below W.heap.size W wx)
  case first =>
    go_region_held3 (fun w' => w'.cell? ⟨g, 0, none⟩ = some (.int .u8 k) ∧ w'.cell? ⟨g, 1, none⟩ = some (.int .u64 b) ∧ w'.cell? ⟨g, 2, none⟩ = some (.string s) ∧ w'.cell? ⟨g, 3, none⟩ = some (.int .u8 l) ∧ w'.cell? ⟨g, 4, none⟩ = some (.int .u64 c) ∧ w'.cell? ⟨g, 5, none⟩ = some (.string t)) (go_keep) (fail)
    all_goals
      go_wp2_with fail
      go_meet
      case rel => exact ⟨_, _, rfl, rfl, ⟨by simp, by simp, by simp, by simp, by simp, by simp⟩, ⟨by simp, by simp, by simp, by simp, by simp, by simp⟩, by omega, by omega, by omega, (((Below.refl _ _).alloc (Nat.le_refl _) _).alloc (by simp) _).drew⟩
  case rest =>
    obtain ⟨h6, h7, rfl, rfl, v6, v7, l6, l7, ne, hb⟩ := hcut
    have zW : w.heap.size < W.heap.size := block_lt_of_cell rb.out.c0
    have RB : Hid (VB wc w.heap.size 0 0 E0) := rb.out.below hb
    have HB : Hid (Below W.heap.size W wc) := hb
    have V6 : Hid (VB wc h6 k b s) := v6
    have V7 : Hid (VB wc h7 l c t) := v7
    have y6 : h6 < wc.heap.size := block_lt_of_cell v6.c0
    have y7 : h7 < wc.heap.size := block_lt_of_cell v7.c0
    obtain ⟨a0, a1, a2, a3, a4, a5⟩ := v7
    clear hb v6 c0 c1 c2 c3 c4 c5 e1
    clear rb
    go_wp2_with (first | (go_at_call 97; refine (B.out _).mono ?_; rintro e w4 ⟨rfl, hb4⟩; have HB4 : Hid (Below wc.heap.size wc w4) := hb4; obtain ⟨r0, r1, r2, r3, r4, r5⟩ := RB.out.below hb4; obtain ⟨p0, p1, p2, p3, p4, p5⟩ := V6.out.below hb4;  obtain ⟨b0, b1, b2, b3, b4, b5⟩ := V7.out.below hb4; clear hb4))
    have E : IntKind.u64.wrap (8 * 2 ^ (k - 10).toNat) = ((wdK k : Nat) : Int) := by rcases hkk with rfl | rfl | rfl | rfl <;> rfl
    have E64 : wdK k ≤ 64 := by rcases hkk with rfl | rfl | rfl | rfl <;> decide
    rw [E]
    refine (HM.out _).mono ?_
    rintro e w5 ⟨rfl, rfl⟩
    have EM : Hid (IntKind.u64.wrap (IntKind.u64.wrap (2 ^ wdK k) - 1) = ((2 ^ wdK k - 1 : Nat) : Int)) := by rcases hkk with rfl | rfl | rfl | rfl <;> rfl
    have BB : Hid (Below w.heap.size w w5) := (gr.out.trans (HB.out.mono (by omega))).trans (HB4.out.mono (by have := HB.out.size; omega))
    have EV : Hid (∃ n, wdK k = n) := ⟨_, rfl⟩
    generalize hn : wdK k = n at EM E64
    have HN : Hid (wdK k = n) := hn
    clear E HM hn EV
    go_wp2
    exact bodyPost_ret (v := .tuple #[V k (bits .and .u64 R (IntKind.u64.wrap (IntKind.u64.wrap (2 ^ n) - 1))) s, .int .i64 0]) (by simp [results, Tryz.results100, go_sem, r0, r1, r2]) rfl ⟨by rw [EM.out, HN.out], (((BB.out.setCell (by simp; omega) _).setCell (by simp) _).setCell (by simp) _).setCell (by simp) _⟩
end
end Go.Proofs.YtpaibmganlaaeaaGreatDoor
namespace Go.Proofs.YtpaibmganlaaeaaGreatDoor
set_option linter.unusedVariables false
open Go.RowKit
theorem lt_mem' {w1 w2 : World} {h : Nat} (hb : Below w1.heap.size w1 w2) (z : h < w1.heap.size) : h < w2.heap.size := Nat.lt_of_lt_of_le z hb.size
theorem below_lt1' {w w1 : World} {x : Obj} (hb : Below (w.alloc x).heap.size (w.alloc x) w1) : w.heap.size < w1.heap.size := by have := hb.size; simp at this; omega
/-- The kinds of a block's cells. -/
abbrev K3 (k : Int) : Prop := k = 1 ∨ k = 3 ∨ k = 14
section
variable (k b : Int) (s : ByteArray) (w : World)
set_option maxHeartbeats 1000000 in
theorem Number_neg (h0 : 0 ≤ b) (h1 : b < 18446744073709551616) (hk : 0 ≤ k ∧ k < 256) (hs : s.size ≤ maxLen) (c : may3 k b s = true) (d : 1 ≤ k ∧ k ≤ 17) (z : Int) (W : Hid (wrap64 b = z)) (e : num k b = z) (n : z < 0) (g : -9223372036854775808 ≤ z) :
    Calls Tryz.prog 136 #[V k b s] w fun e w' => e = .returned (.tuple #[.int .i64 z, .bool true]) ∧ Below w.heap.size w w' := by
  have D : Hid (1 ≤ k ∧ k ≤ 17) := d
  have N : Hid (NB (num k b) = .agg #[.bool true, .int .u64 z.natAbs]) := by show _ = _; rw [e]; exact NB_raw_neg n
  clear d e
  go_enter Tryz.func136, Tryz.ntmps136
  go_wp2_with (first | (go_at_call 15; refine (May_of _ _ _ _ h0 h1 hk hs).mono ?_; rintro e w1 ⟨rfl, hb⟩; obtain ⟨hc, hf⟩ := bcell hb; have hz := below_lt1' hb) | (go_at_call 137; refine (hasNumbers_is _ _ true hk (by symm; simpa using D.out)).mono ?_; rintro e w' ⟨rfl, rfl⟩) | (go_at_call 129; refine (numberOf_is _ _ _ _ h0 h1 N.out).mono ?_; rintro e w2 ⟨rfl, hb2⟩; obtain ⟨hc2, hf2⟩ := bcell hb2; have hz2 := lt_mem' hb2 hz))
  go_ret2
  exact ⟨by rw [W.out]; rfl, ((((Below.refl _ _).alloc (Nat.le_refl _) _).trans (hb.mono (by simp))).trans (hb2.mono (Nat.le_of_lt hz))).alloc (Nat.le_of_lt hz2) _⟩
set_option maxHeartbeats 1000000 in
theorem Number_pos (h0 : 0 ≤ b) (h1 : b < 18446744073709551616) (hk : 0 ≤ k ∧ k < 256) (hs : s.size ≤ maxLen) (c : may3 k b s = true) (d : 1 ≤ k ∧ k ≤ 17) (z : Int) (W : Hid (wrap64 b = z)) (e : num k b = z) (n : 0 ≤ z) (g : z ≤ 9223372036854775807) :
    Calls Tryz.prog 136 #[V k b s] w fun e w' => e = .returned (.tuple #[.int .i64 z, .bool true]) ∧ Below w.heap.size w w' := by
  have D : Hid (1 ≤ k ∧ k ≤ 17) := d
  have N : Hid (NB (num k b) = .agg #[.bool false, .int .u64 z]) := by show _ = _; rw [e]; exact NB_raw_pos n
  clear d e
  go_enter Tryz.func136, Tryz.ntmps136
  go_wp2_with (first | (go_at_call 15; refine (May_of _ _ _ _ h0 h1 hk hs).mono ?_; rintro e w1 ⟨rfl, hb⟩; obtain ⟨hc, hf⟩ := bcell hb; have hz := below_lt1' hb) | (go_at_call 137; refine (hasNumbers_is _ _ true hk (by symm; simpa using D.out)).mono ?_; rintro e w' ⟨rfl, rfl⟩) | (go_at_call 129; refine (numberOf_is _ _ _ _ h0 h1 N.out).mono ?_; rintro e w2 ⟨rfl, hb2⟩; obtain ⟨hc2, hf2⟩ := bcell hb2; have hz2 := lt_mem' hb2 hz))
  go_ret2
  exact ⟨by rw [W.out]; rfl, ((((Below.refl _ _).alloc (Nat.le_refl _) _).trans (hb.mono (by simp))).trans (hb2.mono (Nat.le_of_lt hz))).alloc (Nat.le_of_lt hz2) _⟩
/-- The number of a BOOL, an INT or a TIME that may be. -/
def nmV (k b : Int) : Int := if k = 1 then b else wrap64 b
theorem Number_ok (h0 : 0 ≤ b) (h1 : b < 18446744073709551616) (hs : s.size ≤ maxLen) (c : may3 k b s = true) (d : K3 k) :
    Calls Tryz.prog 136 #[V k b s] w fun e w' => e = .returned (.tuple #[.int .i64 (nmV k b), .bool true]) ∧ Below w.heap.size w w' := by
  have bd := wrap64_bd b
  rcases d with rfl | rfl | rfl
  · have m : b ≤ 1 := by
      have := c; unfold may3 at this; simp [mayW] at this; omega
    have e : wrap64 b = b := by unfold wrap64; omega
    exact Number_pos 1 b s w h0 h1 ⟨by omega, by omega⟩ hs c ⟨by omega, by omega⟩ b e (num_u (by omega)) h0 (by omega)
  all_goals
    by_cases n : wrap64 b < 0
    · exact Number_neg _ b s w h0 h1 ⟨by omega, by omega⟩ hs c ⟨by omega, by omega⟩ (wrap64 b) rfl (num_s (by omega)) n (by omega)
    · exact Number_pos _ b s w h0 h1 ⟨by omega, by omega⟩ hs c ⟨by omega, by omega⟩ (wrap64 b) rfl (num_s (by omega)) (by omega) (by omega)
end
end Go.Proofs.YtpaibmganlaaeaaGreatDoor
namespace Go.Proofs.YtpaibmganlaaeaaGreatDoor
set_option linter.unusedVariables false
open Go.RowKit
/-- A value in a row's beginning. -/
structure A1 (w : World) (g : Nat) (u : Vl) : Prop where
  c0 : w.cell? ⟨g, 0, none⟩ = some (.int .u8 u.k)
  c1 : w.cell? ⟨g, 1, none⟩ = some (.int .u64 u.b)
  c2 : w.cell? ⟨g, 2, none⟩ = some (.string u.s)
theorem A1.below {w w' : World} {g : Nat} {u : Vl} (h : A1 w g u) (hb : Below w.heap.size w w') : A1 w' g u := by
  have z := block_lt_of_cell h.c0
  exact ⟨(hb.cell (p := ⟨g, 0, none⟩) z).trans h.c0, (hb.cell (p := ⟨g, 1, none⟩) z).trans h.c1, (hb.cell (p := ⟨g, 2, none⟩) z).trans h.c2⟩
theorem A1.vs {w : World} {g n : Nat} {v : Nat → Vl} (h : VsAt w ⟨g, 0, none⟩ n v) (hn : 0 < n) : A1 w g (v 0) := by
  obtain ⟨a, b, c⟩ := h 0 hn
  exact ⟨a, b, c⟩
/-- A value from a cell of a block on. -/
structure A1' (w : World) (g o : Nat) (u : Vl) : Prop where
  c0 : w.cell? ⟨g, o, none⟩ = some (.int .u8 u.k)
  c1 : w.cell? ⟨g, o + 1, none⟩ = some (.int .u64 u.b)
  c2 : w.cell? ⟨g, o + 2, none⟩ = some (.string u.s)
theorem A1'.below {w w' : World} {g o : Nat} {u : Vl} (h : A1' w g o u) (hb : Below w.heap.size w w') : A1' w' g o u := by
  have z := block_lt_of_cell h.c0
  exact ⟨(hb.cell (p := ⟨g, o, none⟩) z).trans h.c0, (hb.cell (p := ⟨g, o + 1, none⟩) z).trans h.c1, (hb.cell (p := ⟨g, o + 2, none⟩) z).trans h.c2⟩
theorem add_flat (g o n : Nat) : (⟨g, o, none⟩ : Addr).add n = ⟨g, o + n, none⟩ := by
  unfold Addr.add
  split
  · rename_i h; subst h; rfl
  · rfl
theorem A1'.nx {w : World} {g n k : Nat} {v : Nat → Vl} (h : VsAt w ⟨g, 0, none⟩ n v) (hn : k + 1 < n) : A1' w g (3 + k * 3) (v (k + 1)) := by
  obtain ⟨a, b, c⟩ := h (k + 1) hn
  have e : (k + 1) * 3 = 3 + k * 3 := by omega
  rw [e, add_flat, Nat.zero_add] at a b c
  exact ⟨a, b, c⟩
section
variable (g n cap : Nat) (hw : Int) (k b : Int) (s : ByteArray) (w : World)
set_option maxHeartbeats 1000000 in
theorem move_of (ha : A1 w g ⟨k, b, s⟩) (hn : (0 : Int) < n) :
    Calls Tryz.prog 42 #[.int .i64 hw, .slice (some ⟨g, 0, none⟩) n cap] w fun e w' => e = .returned (.tuple #[V k b s, .int .i64 0]) ∧ Below w.heap.size w w' := by
  obtain ⟨a0, a1, a2⟩ := ha
  have zg : g < w.heap.size := block_lt_of_cell a0
  go_enter Tryz.func42, Tryz.ntmps42
  go_wp2
  exact bodyPost_ret (v := .tuple #[V k b s, .int .i64 0]) (by simp [results, Tryz.results42, go_sem]) rfl ⟨rfl, (Below.refl _ _).alloc (Nat.le_refl _) _⟩
end
end Go.Proofs.YtpaibmganlaaeaaGreatDoor
namespace Go.Proofs.YtpaibmganlaaeaaGreatDoor
set_option linter.unusedVariables false
open Go.RowKit
section
variable (k b : Int) (s : ByteArray) (w : World)
set_option maxHeartbeats 1000000 in
theorem Number_big (h0 : 0 ≤ b) (h1 : b < 18446744073709551616) (hk : 0 ≤ k ∧ k < 256) (hs : s.size ≤ maxLen) (c : may3 k b s = true) (d : 1 ≤ k ∧ k ≤ 17) (z : Int) (e : num k b = z) (n : 9223372036854775807 < z) :
    Calls Tryz.prog 136 #[V k b s] w fun e w' => e = .returned (.tuple #[.int .i64 0, .bool false]) ∧ Below w.heap.size w w' := by
  have D : Hid (1 ≤ k ∧ k ≤ 17) := d
  have N : Hid (NB (num k b) = .agg #[.bool false, .int .u64 z]) := by show _ = _; rw [e]; exact NB_raw_pos (by omega)
  clear d e
  go_enter Tryz.func136, Tryz.ntmps136
  go_wp2_with (first | (go_at_call 15; refine (May_of _ _ _ _ h0 h1 hk hs).mono ?_; rintro e w1 ⟨rfl, hb⟩; obtain ⟨hc, hf⟩ := bcell hb; have hz := below_lt1' hb) | (go_at_call 137; refine (hasNumbers_is _ _ true hk (by symm; simpa using D.out)).mono ?_; rintro e w' ⟨rfl, rfl⟩) | (go_at_call 129; refine (numberOf_is _ _ _ _ h0 h1 N.out).mono ?_; rintro e w2 ⟨rfl, hb2⟩; obtain ⟨hc2, hf2⟩ := bcell hb2; have hz2 := lt_mem' hb2 hz))
  go_ret2
  exact ⟨rfl, ((((Below.refl _ _).alloc (Nat.le_refl _) _).trans (hb.mono (by simp))).trans (hb2.mono (Nat.le_of_lt hz))).alloc (Nat.le_of_lt hz2) _⟩
set_option maxHeartbeats 1000000 in
theorem whole_yes (n : Int) (N : ∀ w, Calls Tryz.prog 136 #[V k b s] w fun e w' => e = .returned (.tuple #[.int .i64 n, .bool true]) ∧ Below w.heap.size w w') :
    Calls Tryz.prog 98 #[V k b s] w fun e w' => e = .returned (.int .i64 n) ∧ Below w.heap.size w w' := by
  have N : Hid _ := N
  go_enter Tryz.func98, Tryz.ntmps98
  go_wp2_with (first | (go_at_call 136; refine (N.out _).mono ?_; rintro e w1 ⟨rfl, hb⟩; have HB : Hid (Below w.heap.size w w1) := ((Below.refl _ _).alloc (Nat.le_refl _) _).trans (hb.mono (by simp)); clear hb))
  go_ret
  exact ⟨rfl, HB.out⟩
set_option maxHeartbeats 1000000 in
theorem whole_no (N : ∀ w, Calls Tryz.prog 136 #[V k b s] w fun e w' => e = .returned (.tuple #[.int .i64 0, .bool false]) ∧ Below w.heap.size w w') :
    Calls Tryz.prog 98 #[V k b s] w fun e w' => e = .returned (.int .i64 9223372036854775807) ∧ Below w.heap.size w w' := by
  have N : Hid _ := N
  go_enter Tryz.func98, Tryz.ntmps98
  go_wp2_with (first | (go_at_call 136; refine (N.out _).mono ?_; rintro e w1 ⟨rfl, hb⟩; have HB : Hid (Below w.heap.size w w1) := ((Below.refl _ _).alloc (Nat.le_refl _) _).trans (hb.mono (by simp)); clear hb))
  go_ret
  exact ⟨rfl, HB.out⟩
/-- There is one number that it is taken for. -/
theorem whole_any (h0 : 0 ≤ b) (h1 : b < 18446744073709551616) (hk : 1 ≤ k ∧ k ≤ 9) (hs : s.size ≤ maxLen) (c : may3 k b s = true) :
    ∃ n : Int, (-9223372036854775808 ≤ n ∧ n ≤ 9223372036854775807) ∧ (k = 1 → n = b) ∧ ∀ w, Calls Tryz.prog 98 #[V k b s] w fun e w' => e = .returned (.int .i64 n) ∧ Below w.heap.size w w' := by
  have bd := wrap64_bd b
  by_cases g : 2 ≤ k ∧ k ≤ 5
  · by_cases n : wrap64 b < 0
    · exact ⟨wrap64 b, by omega, by omega, fun w => whole_yes k b s w _ fun w => Number_neg _ b s w h0 h1 (by omega) hs c (by omega) (wrap64 b) rfl (num_s (by omega)) n (by omega)⟩
    · exact ⟨wrap64 b, by omega, by omega, fun w => whole_yes k b s w _ fun w => Number_pos _ b s w h0 h1 (by omega) hs c (by omega) (wrap64 b) rfl (num_s (by omega)) (by omega) (by omega)⟩
  · by_cases n : b ≤ 9223372036854775807
    · have e : wrap64 b = b := by unfold wrap64; omega
      exact ⟨b, by omega, fun _ => rfl, fun w => whole_yes k b s w _ fun w => Number_pos _ b s w h0 h1 (by omega) hs c (by omega) b e (num_u (by omega)) (by omega) (by omega)⟩
    · refine ⟨9223372036854775807, by omega, ?_, fun w => whole_no k b s w fun w => Number_big _ b s w h0 h1 (by omega) hs c (by omega) b (num_u (by omega)) (by omega)⟩
      rintro rfl
      unfold may3 at c; simp [mayW] at c; omega
end
end Go.Proofs.YtpaibmganlaaeaaGreatDoor
namespace Go.Proofs.YtpaibmganlaaeaaGreatDoor
set_option linter.unusedVariables false
open Go.RowKit
theorem Text_yes (s : ByteArray) (w : World) (h : s.size ≤ 254) : Calls Tryz.prog 109 #[.string s] w fun e w' => e = .returned (.tuple #[V 19 0 s, .int .i64 0]) ∧ Below w.heap.size w w' := by
  have := Text_of s w (by unfold maxLen; omega); unfold textR at this; rwa [if_pos h] at this
theorem Text_no (s : ByteArray) (w : World) (h : ¬ s.size ≤ 254) (hs : s.size ≤ maxLen) : Calls Tryz.prog 109 #[.string s] w fun e w' => e = .returned (.tuple #[V 0 0 E0, .int .i64 5]) ∧ Below w.heap.size w w' := by
  have := Text_of s w hs; unfold textR at this; rwa [if_neg h] at this
/-- Three values in a row of their own. -/
structure A3 (w : World) (g : Nat) (u v x : Vl) : Prop where
  c0 : w.cell? ⟨g, 0, none⟩ = some (.int .u8 u.k)
  c1 : w.cell? ⟨g, 1, none⟩ = some (.int .u64 u.b)
  c2 : w.cell? ⟨g, 2, none⟩ = some (.string u.s)
  c3 : w.cell? ⟨g, 3, none⟩ = some (.int .u8 v.k)
  c4 : w.cell? ⟨g, 4, none⟩ = some (.int .u64 v.b)
  c5 : w.cell? ⟨g, 5, none⟩ = some (.string v.s)
  c6 : w.cell? ⟨g, 6, none⟩ = some (.int .u8 x.k)
  c7 : w.cell? ⟨g, 7, none⟩ = some (.int .u64 x.b)
  c8 : w.cell? ⟨g, 8, none⟩ = some (.string x.s)
theorem A3.below {w w' : World} {g : Nat} {u v x : Vl} (h : A3 w g u v x) (hb : Below w.heap.size w w') : A3 w' g u v x := by
  have z := block_lt_of_cell h.c0
  exact ⟨(hb.cell (p := ⟨g, 0, none⟩) z).trans h.c0, (hb.cell (p := ⟨g, 1, none⟩) z).trans h.c1, (hb.cell (p := ⟨g, 2, none⟩) z).trans h.c2, (hb.cell (p := ⟨g, 3, none⟩) z).trans h.c3, (hb.cell (p := ⟨g, 4, none⟩) z).trans h.c4, (hb.cell (p := ⟨g, 5, none⟩) z).trans h.c5, (hb.cell (p := ⟨g, 6, none⟩) z).trans h.c6, (hb.cell (p := ⟨g, 7, none⟩) z).trans h.c7, (hb.cell (p := ⟨g, 8, none⟩) z).trans h.c8⟩
theorem A3.vs {w : World} {g : Nat} {v : Nat → Vl} (h : VsAt w ⟨g, 0, none⟩ 3 v) : A3 w g (v 0) (v 1) (v 2) := by
  obtain ⟨a, b, c⟩ := h 0 (by decide)
  obtain ⟨d, e, f⟩ := h 1 (by decide)
  obtain ⟨i, j, k⟩ := h 2 (by decide)
  exact ⟨a, b, c, d, e, f, i, j, k⟩
/-- Two values in a row. -/
theorem A2.vs {w : World} {g : Nat} {v : Nat → Vl} (h : VsAt w ⟨g, 0, none⟩ 2 v) : A2 w g (v 0) (v 1) := by
  obtain ⟨a, b, c⟩ := h 0 (by decide)
  obtain ⟨d, e, f⟩ := h 1 (by decide)
  exact ⟨a, b, c, d, e, f⟩
/-- Four values in a row of their own: the first three, and the last. -/
structure A4 (w : World) (g : Nat) (u v x y : Vl) : Prop where
  a : A3 w g u v x
  c9 : w.cell? ⟨g, 9, none⟩ = some (.int .u8 y.k)
  c10 : w.cell? ⟨g, 10, none⟩ = some (.int .u64 y.b)
  c11 : w.cell? ⟨g, 11, none⟩ = some (.string y.s)
theorem A4.below {w w' : World} {g : Nat} {u v x y : Vl} (h : A4 w g u v x y) (hb : Below w.heap.size w w') : A4 w' g u v x y := by
  have z := block_lt_of_cell h.a.c0
  exact ⟨h.a.below hb, (hb.cell (p := ⟨g, 9, none⟩) z).trans h.c9, (hb.cell (p := ⟨g, 10, none⟩) z).trans h.c10, (hb.cell (p := ⟨g, 11, none⟩) z).trans h.c11⟩
theorem A4.vs {w : World} {g : Nat} {v : Nat → Vl} (h : VsAt w ⟨g, 0, none⟩ 4 v) : A4 w g (v 0) (v 1) (v 2) (v 3) := by
  obtain ⟨a, b, c⟩ := h 3 (by decide)
  exact ⟨A3.vs fun i hi => h i (by omega), a, b, c⟩
end Go.Proofs.YtpaibmganlaaeaaGreatDoor
namespace Go.Proofs.YtpaibmganlaaeaaGreatDoor
set_option linter.unusedVariables false
open Go.RowKit
section
variable (g cap : Nat) (k b l c hw : Int) (s t : ByteArray) (w : World)
/-- A turned row. -/
def tlB (k b c : Int) : Int := rotN (wdK k) (c.toNat % wdK k) b.toNat
def trB (k b c : Int) : Int := rotN (wdK k) (wdK k - c.toNat % wdK k) b.toNat
theorem wd_pos (k : Int) : 0 < wdK k ∧ wdK k ≤ 64 := by unfold wdK; by_cases a : k = 10 <;> by_cases b : k = 11 <;> by_cases c : k = 12 <;> simp [a, b, c]
theorem may_row (h : k = 10 ∨ k = 11 ∨ k = 12 ∨ k = 13) (h1 : b < 18446744073709551616) (m : may3 k b s = true) : b < ((2 ^ wdK k : Nat) : Int) := by
  rcases h with rfl | rfl | rfl | rfl <;> simp [may3, mayW, wdK] at m ⊢ <;> omega
theorem turn_cut (r : Int) (n m : Nat) (hm : m ≤ n) (hn : n ≤ 64) (h0 : 0 ≤ r) (h1 : r < ((2 ^ n : Nat) : Int)) : bits .and .u64 (rndI r n m) ((2 ^ n - 1 : Nat) : Int) = rotN n m r.toNat := rot_int n m r hm hn h0 h1

theorem enter_left (args : Array Value) (w : World) : (callFunc 103 args).run Tryz.prog w = .ok (.enter 103 args) w := by kernel_rfl
theorem enter_right (args : Array Value) (w : World) : (callFunc 105 args).run Tryz.prog w = .ok (.enter 105 args) w := by kernel_rfl
set_option maxHeartbeats 1000000 in
theorem turnLeft_g (rk rb fa : Int) (rs : ByteArray) (M : ∀ W, Below w.heap.size w W → Calls Tryz.prog 100 #[.slice (some ⟨g, 0, none⟩) 2 cap, .func (.func 103) #[] #[]] W fun e w' => e = .returned (.tuple #[V rk rb rs, .int .i64 fa]) ∧ Below W.heap.size W w') :
    Calls Tryz.prog 53 #[.int .i64 hw, .slice (some ⟨g, 0, none⟩) 2 cap] w fun e w' => e = .returned (.tuple #[V rk rb rs, .int .i64 fa]) ∧ Below w.heap.size w w' := by
  have HM : Hid _ := M
  clear M
  go_enter Tryz.func53, Tryz.ntmps53
  go_wp2_with (first | (go_at_call 100; refine (HM.out _ ((Below.refl _ _).alloc (Nat.le_refl _) _)).mono ?_; rintro e w1 ⟨rfl, hb⟩; obtain ⟨q, fq⟩ := bcell hb; have s1 := hb.size; (try simp at s1); have q0 := q w.heap.size 0 (by simp); have q1 := q w.heap.size 1 (by simp); have q2 := q w.heap.size 2 (by simp); have f0 := fq w.heap.size 0 (by simp); have f1 := fq w.heap.size 1 (by simp); have f2 := fq w.heap.size 2 (by simp); simp at q0 q1 q2 f0 f1 f2; have HB : Hid (Below w.heap.size w w1) := ((Below.refl _ _).alloc (Nat.le_refl _) _).trans (hb.mono (by simp)); clear hb q fq))
  exact bodyPost_ret (v := .tuple #[V rk rb rs, .int .i64 fa]) (by simp [results, Tryz.results53, go_sem, q0, q1, q2]) rfl ⟨rfl, ((HB.out.setCell (by simp) _).setCell (by simp) _).setCell (by simp) _⟩
set_option maxHeartbeats 1000000 in
theorem turnRight_g (rk rb fa : Int) (rs : ByteArray) (M : ∀ W, Below w.heap.size w W → Calls Tryz.prog 100 #[.slice (some ⟨g, 0, none⟩) 2 cap, .func (.func 105) #[] #[]] W fun e w' => e = .returned (.tuple #[V rk rb rs, .int .i64 fa]) ∧ Below W.heap.size W w') :
    Calls Tryz.prog 54 #[.int .i64 hw, .slice (some ⟨g, 0, none⟩) 2 cap] w fun e w' => e = .returned (.tuple #[V rk rb rs, .int .i64 fa]) ∧ Below w.heap.size w w' := by
  have HM : Hid _ := M
  clear M
  go_enter Tryz.func54, Tryz.ntmps54
  go_wp2_with (first | (go_at_call 100; refine (HM.out _ ((Below.refl _ _).alloc (Nat.le_refl _) _)).mono ?_; rintro e w1 ⟨rfl, hb⟩; obtain ⟨q, fq⟩ := bcell hb; have s1 := hb.size; (try simp at s1); have q0 := q w.heap.size 0 (by simp); have q1 := q w.heap.size 1 (by simp); have q2 := q w.heap.size 2 (by simp); have f0 := fq w.heap.size 0 (by simp); have f1 := fq w.heap.size 1 (by simp); have f2 := fq w.heap.size 2 (by simp); simp at q0 q1 q2 f0 f1 f2; have HB : Hid (Below w.heap.size w w1) := ((Below.refl _ _).alloc (Nat.le_refl _) _).trans (hb.mono (by simp)); clear hb q fq))
  exact bodyPost_ret (v := .tuple #[V rk rb rs, .int .i64 fa]) (by simp [results, Tryz.results54, go_sem, q0, q1, q2]) rfl ⟨rfl, ((HB.out.setCell (by simp) _).setCell (by simp) _).setCell (by simp) _⟩
theorem turnLeft_neg (ha : A2 w g ⟨k, b, s⟩ ⟨l, c, t⟩) (h0 : 0 ≤ c) (h1 : c < 18446744073709551616) (hk : 2 ≤ l ∧ l ≤ 9) (hs : t.size ≤ maxLen) (m : may3 l c t = true) (hn : num l c < 0) :
    Calls Tryz.prog 53 #[.int .i64 hw, .slice (some ⟨g, 0, none⟩) 2 cap] w fun e w' => e = .returned (.tuple #[V 0 0 E0, .int .i64 3]) ∧ Below w.heap.size w w' :=
  turnLeft_g g cap hw w 0 0 3 E0 (fun W hb => moveBits_neg g cap _ k b l c s t W (ha.below hb) h0 h1 hk hs m hn)
theorem turnLeft_yes (hkk : k = 10 ∨ k = 11 ∨ k = 12 ∨ k = 13) (ha : A2 w g ⟨k, b, s⟩ ⟨l, c, t⟩) (b0 : 0 ≤ b) (b1 : b < 18446744073709551616) (mb : may3 k b s = true) (h0 : 0 ≤ c) (h1 : c < 18446744073709551616) (hk : 2 ≤ l ∧ l ≤ 9) (hs : t.size ≤ maxLen) (m : may3 l c t = true) (hn : ¬ num l c < 0) :
    Calls Tryz.prog 53 #[.int .i64 hw, .slice (some ⟨g, 0, none⟩) 2 cap] w fun e w' => e = .returned (.tuple #[V k (tlB k b c) s, .int .i64 0]) ∧ Below w.heap.size w w' := by
  have wp := wd_pos k
  have lm := Nat.mod_lt c.toNat wp.1
  have e := turn_cut b (wdK k) (c.toNat % wdK k) (by omega) wp.2 b0 (may_row k b s hkk b1 mb)
  have M := fun W => turnLeft1_of b (wdK k) c.toNat W wp.1 wp.2
  rw [show ((c.toNat : Nat) : Int) = c by omega] at M
  unfold tlB
  rw [← e]
  exact turnLeft_g g cap hw w k _ 0 s (fun W hb => moveBits_yes g cap _ k b l c s t W _ hkk (ha.below hb) h0 h1 hk hs m hn M enter_left)
theorem turnRight_neg (ha : A2 w g ⟨k, b, s⟩ ⟨l, c, t⟩) (h0 : 0 ≤ c) (h1 : c < 18446744073709551616) (hk : 2 ≤ l ∧ l ≤ 9) (hs : t.size ≤ maxLen) (m : may3 l c t = true) (hn : num l c < 0) :
    Calls Tryz.prog 54 #[.int .i64 hw, .slice (some ⟨g, 0, none⟩) 2 cap] w fun e w' => e = .returned (.tuple #[V 0 0 E0, .int .i64 3]) ∧ Below w.heap.size w w' :=
  turnRight_g g cap hw w 0 0 3 E0 (fun W hb => moveBits_neg g cap _ k b l c s t W (ha.below hb) h0 h1 hk hs m hn)
theorem turnRight_yes (hkk : k = 10 ∨ k = 11 ∨ k = 12 ∨ k = 13) (ha : A2 w g ⟨k, b, s⟩ ⟨l, c, t⟩) (b0 : 0 ≤ b) (b1 : b < 18446744073709551616) (mb : may3 k b s = true) (h0 : 0 ≤ c) (h1 : c < 18446744073709551616) (hk : 2 ≤ l ∧ l ≤ 9) (hs : t.size ≤ maxLen) (m : may3 l c t = true) (hn : ¬ num l c < 0) :
    Calls Tryz.prog 54 #[.int .i64 hw, .slice (some ⟨g, 0, none⟩) 2 cap] w fun e w' => e = .returned (.tuple #[V k (trB k b c) s, .int .i64 0]) ∧ Below w.heap.size w w' := by
  have wp := wd_pos k
  have lm := Nat.mod_lt c.toNat wp.1
  have e := turn_cut b (wdK k) (wdK k - c.toNat % wdK k) (by omega) wp.2 b0 (may_row k b s hkk b1 mb)
  have M := fun W => turnRight1_of b (wdK k) c.toNat W wp.1 wp.2
  rw [show ((c.toNat : Nat) : Int) = c by omega] at M
  unfold trB
  rw [← e]
  exact turnRight_g g cap hw w k _ 0 s (fun W hb => moveBits_yes g cap _ k b l c s t W _ hkk (ha.below hb) h0 h1 hk hs m hn M enter_right)
theorem turn_back (hkk : k = 10 ∨ k = 11 ∨ k = 12 ∨ k = 13) (b0 : 0 ≤ b) (b1 : b < 18446744073709551616) (mb : may3 k b s = true) : trB k (tlB k b c) c = b := by
  have wp := wd_pos k
  have lm := Nat.mod_lt c.toNat wp.1
  have mr := may_row k b s hkk b1 mb
  unfold trB tlB
  rw [Int.toNat_natCast, rotN_back _ _ _ (by omega) (by omega)]
  omega
theorem tl_may (hkk : k = 10 ∨ k = 11 ∨ k = 12 ∨ k = 13) (b0 : 0 ≤ b) (b1 : b < 18446744073709551616) (mb : may3 k b s = true) : 0 ≤ tlB k b c ∧ tlB k b c < 18446744073709551616 ∧ may3 k (tlB k b c) s = true := by
  have wp := wd_pos k
  have lm := Nat.mod_lt c.toNat wp.1
  have mr := may_row k b s hkk b1 mb
  have lt := rotN_lt (wdK k) (c.toNat % wdK k) b.toNat (by omega) (by omega)
  have e : tlB k b c = ((rotN (wdK k) (c.toNat % wdK k) b.toNat : Nat) : Int) := rfl
  rw [e]
  generalize rotN (wdK k) (c.toNat % wdK k) b.toNat = n at *
  have p : 2 ^ wdK k ≤ 2 ^ 64 := Nat.pow_le_pow_right (by omega) wp.2
  refine ⟨by omega, by omega, ?_⟩
  rcases hkk with rfl | rfl | rfl | rfl <;> simp [may3, mayW, wdK] at mb lt ⊢ <;> first | exact ⟨mb.1, by omega⟩ | exact mb
end
end Go.Proofs.YtpaibmganlaaeaaGreatDoor
namespace Go.Proofs.YtpaibmganlaaeaaGreatDoor
set_option linter.unusedVariables false
open Go.RowKit
theorem bld_info : ∃ j, Tryz.prog.info? 97 = some j ∧ j.size = 2 := by
  obtain ⟨j, h1, h2⟩ := Option.map_eq_some_iff.1 (show (Tryz.prog.info? 97).map (fun i => i.size) = some 2 by kernel_rfl)
  exact ⟨j, h1, h2⟩
theorem byte_info : ∃ i, Tryz.prog.info? 5 = some i ∧ i.zero = some (.int .u8 0) ∧ i.size = 1 ∧ i.bytes = 1 := by
  obtain ⟨i, hi, hz⟩ := Option.map_eq_some_iff.1 (show (Tryz.prog.info? 5).map (fun i => (i.zero, i.size, i.bytes)) = some (some (.int .u8 0), 1, 1) by kernel_rfl)
  simp only [Prod.mk.injEq] at hz
  exact ⟨i, hi, hz.1, hz.2.1, hz.2.2⟩
set_option maxHeartbeats 1000000 in
set_option maxRecDepth 100000 in
theorem copyCheck_used (b : Nat) (w : World) (h0 : w.cell? ⟨b, 0, none⟩ = some (.pointer (some ⟨b, 0, none⟩))) :
    Calls Tryz.prog 139 #[.pointer (some ⟨b, 0, none⟩)] w fun e w' => e = .returned (.tuple #[]) ∧ w' = w := by
  obtain ⟨j, hj, hs⟩ := bld_info
  have ne := Lib.run_neq_ptr_same (P := Tryz.prog) w ⟨b, 0, none⟩ Tryz.underlying94 hj
  go_enter Tryz.func139, Tryz.ntmps139
  go_wp2
  go_end0
  exact ⟨rfl, rfl⟩
set_option maxHeartbeats 1000000 in
set_option maxRecDepth 100000 in
theorem copyCheck_fresh (b : Nat) (w : World) (h0 : w.cell? ⟨b, 0, none⟩ = some (.pointer none)) (hsh : w.shape? b = some (97, 2)) (hfz : w.frozen? ⟨b, 0, none⟩ = false) :
    Calls Tryz.prog 139 #[.pointer (some ⟨b, 0, none⟩)] w fun e w' => e = .returned (.tuple #[]) ∧ w' = w.setCell ⟨b, 0, none⟩ (.pointer (some ⟨b, 0, none⟩)) := by
  obtain ⟨j, hj, hs⟩ := bld_info
  have tu := Lib.run_to_unsafe (P := Tryz.prog) w ⟨b, 0, none⟩ Tryz.underlying94 Tryz.underlying138 hj (by rw [hs]; decide) hsh (show (0 : Nat) < 2 by decide)
  have fu := Lib.run_from_unsafe (P := Tryz.prog) w ⟨b, 0, none⟩ Tryz.underlying138 Tryz.underlying94 hj hsh (by kernel_rfl)
  have ce : (callFunc 161 #[.pointer (some ⟨b, 0, none⟩)]).run Tryz.prog w = .ok (.value (.pointer (some ⟨b, 0, none⟩))) w := by
    rw [run_callFunc_extern Tryz.func161 (by kernel_rfl) (by kernel_rfl) (by kernel_rfl) (e := Extern.AbiNoEscape.same) (by kernel_rfl), Lib.run_noEscape]
    rfl
  go_enter Tryz.func139, Tryz.ntmps139
  go_wp2
  go_end0
  exact ⟨rfl, rfl⟩
theorem copyCheck_of (B b : Nat) (bs : List Value) (w : World) (h : Lib.IsBuilder 97 5 B b bs w) :
    Calls Tryz.prog 139 #[.pointer (some ⟨b, 0, none⟩)] w fun e w' => e = .returned (.tuple #[]) ∧ Lib.BuilderAt 97 5 B b (.pointer (some ⟨b, 0, none⟩)) bs w' ∧ Below B w w' := by
  rcases h with h | h
  · refine (copyCheck_fresh b w h.cell0 h.shape h.frozen0).mono ?_
    rintro e w' ⟨rfl, rfl⟩
    exact ⟨rfl, h.used _, (Below.refl B w).setCell (p := ⟨b, 0, none⟩) h.1 _⟩
  · refine (copyCheck_used b w h.cell0).mono ?_
    rintro e w' ⟨rfl, rfl⟩
    exact ⟨rfl, h, Below.refl B _⟩
set_option maxHeartbeats 2000000 in
set_option maxRecDepth 100000 in
theorem WriteString_of (B b : Nat) (bs : List Value) (s : ByteArray) (w : World) (h : Lib.IsBuilder 97 5 B b bs w) (hlen : bs.length + s.size ≤ 140737488355328) (hBw : B ≤ w.heap.size) :
    Calls Tryz.prog 111 #[.pointer (some ⟨b, 0, none⟩), .string s] w fun e w' => e = .returned (.tuple #[.int .i64 s.size, .nilIface]) ∧ Lib.BuilderAt 97 5 B b (.pointer (some ⟨b, 0, none⟩)) (bs ++ Lib.strCells s) w' ∧ Below B w w' := by
  obtain ⟨i0, hi, hz0, hz1, hz2⟩ := byte_info
  have H : Hid _ := h
  clear h
  go_enter Tryz.func111, Tryz.ntmps111
  go_wp2_with (go_at_call 139; refine (copyCheck_of B b bs _ H.out).mono ?_)
  rintro e w1 ⟨rfl, h1, hb1⟩
  obtain ⟨hB, v, hbk, hown, hne⟩ := h1
  have c0 : w1.cell? ⟨b, 0, none⟩ = some (.pointer (some ⟨b, 0, none⟩)) := by rw [Lib.cell_of_heap hbk]; rfl
  have c1 : w1.cell? ⟨b, 1, none⟩ = some v := by rw [Lib.cell_of_heap hbk]; rfl
  go_wp2_with (at_builtin; refine Lib.wpList_append_own_string _ rfl _ _ 95 9 rfl B 5 i0 Tryz.underlying95 Tryz.underlying9 hi hz0 hz1 hz2 _ _ _ rfl hown s rfl ?c3 ?c4 ?c5 ?_)
  case c3 => unfold maxLen; omega
  case c4 => omega
  case c5 => have := hb1.size; omega
  intro v' w2 hown' hgrow _
  have hlt : b < w1.heap.size := lt_of_block hbk
  have hb2 : w2.heap[b]? = some (.cells #[.pointer (some ⟨b, 0, none⟩), v] 97 (0, 0)) := by
    rw [hgrow.block b hlt (fun e => hne e.symm)]
    exact hbk
  have d0 : w2.cell? ⟨b, 0, none⟩ = some (.pointer (some ⟨b, 0, none⟩)) := by rw [Lib.cell_of_heap hb2]; rfl
  have d1 : w2.cell? ⟨b, 1, none⟩ = some v := by rw [Lib.cell_of_heap hb2]; rfl
  have f1 : w2.frozen? ⟨b, 1, none⟩ = false := Lib.frozen_of_heap hb2 1
  obtain ⟨ao, n', cap, rfl⟩ : ∃ ao n' cap, v' = .slice ao n' cap := by
    rcases hown'.2 with ⟨hv, _⟩ | ⟨g, cap, cur, hv, _⟩
    · exact ⟨_, _, _, hv⟩
    · exact ⟨_, _, _, hv⟩
  go_wp2
  go_ret2
  refine ⟨rfl, ?_, ?_⟩
  · exact Lib.BuilderAt.put (T := 97) (e := 5) hB hb2 (bs' := bs ++ Lib.strCells s) (by simpa [Lib.strCells_length] using hown') (by decide)
  · exact (hb1.grown hgrow (by have := hb1.size; omega) (fun k hk => (hown.lt k hk).1)).setCell (p := ⟨b, 1, none⟩) hB _
end Go.Proofs.YtpaibmganlaaeaaGreatDoor
namespace Go.Proofs.YtpaibmganlaaeaaGreatDoor
set_option linter.unusedVariables false
open Go.RowKit
/-- The first texts, one behind the other. -/
def ctL (v : Nat → Vl) : Nat → List UInt8
  | 0 => []
  | n + 1 => ctL v n ++ (v n).s.data.toList
theorem byte_app (l : List UInt8) (s : ByteArray) : Lib.byteCells l ++ Lib.strCells s = Lib.byteCells (l ++ s.data.toList) := by
  simp [Lib.byteCells, Lib.strCells]
theorem bld_alloc {T e : TypeId} {B b : Nat} {bs : List Value} {w : World} {o : Obj} (h : Lib.IsBuilder T e B b bs w) : Lib.IsBuilder T e B b bs (w.alloc o) := by
  have f : ∀ p, Lib.BuilderAt T e B b p bs w → Lib.BuilderAt T e B b p bs (w.alloc o) := by
    rintro p ⟨h1, x, h2, h3, h4⟩
    have hb : Below w.heap.size w (w.alloc o) := (Below.refl _ _).alloc (Nat.le_refl _) _
    exact ⟨h1, x, (hb.block b (lt_of_block h2)).trans h2, ownsRow_below h3 hb, h4⟩
  exact h.elim (fun x => .inl (f _ x)) (fun x => .inr (f _ x))
theorem ct_len (v : Nat → Vl) (k : Nat) (h : (ctL v k).length ≤ k * 254) (z : (v k).s.size ≤ 254) : (ctL v (k + 1)).length ≤ (k + 1) * 254 := by
  have e : (v k).s.data.toList.length = (v k).s.size := by rw [Array.length_toList]; rfl
  show (ctL v k ++ (v k).s.data.toList).length ≤ _
  rw [List.length_append, e]
  omega
section
variable (a : Addr) (cap : Nat) (hw : Int) (n : Nat) (v : Nat → Vl) (w : World)
set_option maxHeartbeats 4000000 in
theorem concat_of (hv : VsAt w a n v) (hn : n < 1000000) (hz : ∀ i, i < n → (v i).s.size ≤ 254) (rk rb fa : Int) (rs : ByteArray)
    (hT : ∀ W, Calls Tryz.prog 109 #[.string ⟨(ctL v n).toArray⟩] W fun e w' => e = .returned (.tuple #[V rk rb rs, .int .i64 fa]) ∧ Below W.heap.size W w') :
    Calls Tryz.prog 61 #[.int .i64 hw, (.slice (some a) n cap)] w fun e w' => e = .returned (.tuple #[V rk rb rs, .int .i64 fa]) ∧ Below w.heap.size w w' := by
  have HV : Hid (VsAt w a n v) := hv
  have HZ : Hid _ := hz
  have HT : Hid _ := hT
  clear hv hz hT
  go_enter Tryz.func61, Tryz.ntmps61
  go_wp2
  have gr : Hid (Below w.heap.size w (w.alloc (.cells #[.int .u8 0, .int .u64 0, .string ⟨#[]⟩] 27))) := (Below.refl _ _).alloc (Nat.le_refl _) _
  have rbx : Hid (VB (w.alloc (.cells #[.int .u8 0, .int .u64 0, .string ⟨#[]⟩] 27)) w.heap.size 0 0 E0) := ⟨by simp, by simp, by simp, by simp, by simp, by simp⟩
  have zb : w.heap.size + 1 = (w.alloc (.cells #[.int .u8 0, .int .u64 0, .string ⟨#[]⟩] 27)).heap.size := by simp
  rw [zb]
  generalize (w.alloc (.cells #[.int .u8 0, .int .u64 0, .string ⟨#[]⟩] 27)) = W at *
  have Z : Hid (w.heap.size + 1 = W.heap.size) := zb
  clear zb
  have zw : w.heap.size < W.heap.size := by have := Z.out; omega
  go_loopw [11] (fun i wr => ∃ k : Nat, k ≤ n ∧ i = .int .i64 k ∧ Lib.IsBuilder 97 5 W.heap.size W.heap.size (Lib.byteCells (ctL v k)) wr ∧ Below W.heap.size W wr ∧ (ctL v k).length ≤ k * 254) (fun i _ => n - (intOf i).toNat)
  case atStart => exact ⟨0, Nat.zero_le _, rfl, .inl ⟨Nat.le_refl _, .slice none 0 0, heap_alloc_last W _, ⟨rfl, .inl ⟨rfl, rfl⟩⟩, by simp [Value.ownBlock]⟩, (Below.refl _ _).alloc (Nat.le_refl _) _, by simp [ctL]⟩
  case round =>
    obtain ⟨k, hk, rfl, hbd, hb, hlen⟩ := hrel
    have HB : Hid (Below W.heap.size W wr) := hb
    have Bw : Hid (Below w.heap.size w wr) := gr.out.trans (hb.mono gr.out.size)
    have HD : Hid (Lib.IsBuilder 97 5 W.heap.size W.heap.size (Lib.byteCells (ctL v k)) wr) := hbd
    have HL : Hid ((ctL v k).length ≤ k * 254) := hlen
    clear hbd hlen
    by_cases hlt : k < n
    · obtain ⟨d0, d1, d2⟩ := HV.out.below Bw.out k hlt
      have z : Hid ((v k).s.size ≤ 254) := HZ.out k hlt
      clear hb
      go_wp2_with (first | (go_at_call 111; refine (WriteString_of W.heap.size W.heap.size (Lib.byteCells (ctL v k)) (v k).s _ (bld_alloc HD.out) (by rw [Lib.byteCells_length]; have := HL.out; have := z.out; omega) (by have := HB.out.size; simp; omega)).mono ?_; rintro e w5 ⟨rfl, hb5, hl5⟩; have H5 : Hid (Lib.IsBuilder 97 5 W.heap.size W.heap.size (Lib.byteCells (ctL v (k + 1))) w5) := .inr (by rw [byte_app] at hb5; exact hb5); have L5 : Hid (Below W.heap.size W w5) := (HB.out.alloc HB.out.size _).trans hl5; clear hb5 hl5))
      exact ⟨⟨k + 1, by omega, by go_num, H5.out, L5.out, ct_len v k HL.out z.out⟩, by simp [intOf]; omega⟩
    · obtain rfl : k = n := by omega
      clear hb
      go_wp2_with (first | (go_at_call 112; refine (Tryz.Builder_String_any W.heap.size W.heap.size (ctL v k) _ HD.out HB.out.size).mono ?_; rintro e w5 ⟨rfl, hb5⟩; have L5 : Hid (Below W.heap.size W w5) := HB.out.trans hb5; clear hb5) | (go_at_call 109; refine (HT.out _).mono ?_; rintro e w6 ⟨rfl, hb6⟩; have L6 : Hid (Below W.heap.size W w6) := L5.out.trans (hb6.mono L5.out.size); obtain ⟨r0, r1, r2, r3, r4, r5⟩ := rbx.out.below L6.out; clear hb6))
      have B6 : Hid (Below w.heap.size w w6) := gr.out.trans (L6.out.mono gr.out.size)
      exact bodyPost_ret (v := .tuple #[V rk rb rs, .int .i64 fa]) (by simp [results, Tryz.results61, go_sem, r0, r1, r2]) rfl ⟨rfl, ((B6.out.setCell (by simp) _).setCell (by simp) _).setCell (by simp) _⟩
end
end Go.Proofs.YtpaibmganlaaeaaGreatDoor
