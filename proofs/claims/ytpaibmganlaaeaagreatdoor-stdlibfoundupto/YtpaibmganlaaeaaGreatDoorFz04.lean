/- What the operations on two numbers come to, plainly: sums, products, quotients, and where a machine's number has room; no statement of the seat is proved here. -/
import Derived.Test.YtpaibmganlaaeaaGreatDoorFz03
import Derived.Test.YtpaibmganlaaeaaGreatDoorFz02
namespace Go.Proofs.YtpaibmganlaaeaaGreatDoor
set_option linter.unusedVariables false
open Go.RowKit
/-- Is there a 1 of the kind? -/
def smO (k : Int) : Bool := decide (1 ≤ k ∧ k ≤ 17) && fitOk k 1
/-- A kind's sample: its kind and bits. -/
def smK (k : Int) : Int := if smO k then k else zeroK k
def smB (k : Int) : Int := if smO k then 1 else 0
set_option maxRecDepth 20000 in
set_option maxHeartbeats 1000000 in
theorem sample_no (k z fl : Int) (w : World) (hf : (fl == 0) = false) (hI : ∀ w, Calls Tryz.prog 108 #[.int .u8 k, .int .i64 1] w fun e w' => e = .returned (.tuple #[V 0 0 E0, .int .i64 fl]) ∧ Below w.heap.size w w')
    (hZ : ∀ w, Calls Tryz.prog 131 #[.int .u8 k] w fun e w' => e = .returned (V z 0 E0) ∧ Below w.heap.size w w') : Calls Tryz.prog 87 #[.int .u8 k] w fun e w' => e = .returned (V z 0 E0) ∧ Below w.heap.size w w' := by
  have I : Hid _ := hI
  have Z : Hid _ := hZ
  clear hI hZ
  go_enter Tryz.func87, Tryz.ntmps87
  go_wp2_with (first | (go_at_call 108; refine (I.out _).mono ?_; rintro e w1 ⟨rfl, hb⟩; obtain ⟨z0, q0, q1, q2, q3, HB0⟩ := step_zero hb; have HB : Hid (Below w.heap.size w w1) := HB0; clear hb HB0) | (go_at_call 131; refine (Z.out _).mono ?_; rintro e w2 ⟨rfl, hb2⟩; obtain ⟨y0, n0, n1⟩ := step1 hb2 (h := w.heap.size) (by first | exact z0 | (simp; omega)); have HB2 : Hid _ := hb2; clear hb2))
  have z1 := HB.out.size
  exact bodyPost_ret (v := V z 0 E0) (by simp [results, Tryz.results87, go_sem, n0, q0, q1, q2, z0]) rfl ⟨rfl, ((((HB.out.alloc z1 _).trans (HB2.out.mono (by simp; omega))).setCell (by simp) _).setCell (by simp) _).setCell (by simp) _⟩
set_option maxRecDepth 20000 in
set_option maxHeartbeats 1000000 in
theorem sample_yes (k : Int) (w : World) (hI : ∀ w, Calls Tryz.prog 108 #[.int .u8 k, .int .i64 1] w fun e w' => e = .returned (.tuple #[V k 1 E0, .int .i64 0]) ∧ Below w.heap.size w w') :
    Calls Tryz.prog 87 #[.int .u8 k] w fun e w' => e = .returned (V k 1 E0) ∧ Below w.heap.size w w' := by
  have I : Hid _ := hI
  clear hI
  go_enter Tryz.func87, Tryz.ntmps87
  go_wp2_with (first | (go_at_call 108; refine (I.out _).mono ?_; rintro e w1 ⟨rfl, hb⟩; obtain ⟨z0, q0, q1, q2, q3, HB0⟩ := step_zero hb; have HB : Hid (Below w.heap.size w w1) := HB0; clear hb HB0) | (go_at_call 131; refine (Z.out _).mono ?_; rintro e w2 ⟨rfl, hb2⟩; obtain ⟨y0, n0, n1⟩ := step1 hb2 (h := w.heap.size) (by first | exact z0 | (simp; omega)); have HB2 : Hid _ := hb2; clear hb2))
  have z1 := HB.out.size
  exact bodyPost_ret (v := V k 1 E0) (by simp [results, Tryz.results87, go_sem, q0, q1, q2, z0]) rfl ⟨rfl, (((HB.out.setCell (by simp) _).setCell (by simp) _).setCell (by simp) _).alloc (by simp; omega) _⟩
theorem sample_of (k : Int) (w : World) (hk : 0 ≤ k ∧ k < 256) : Calls Tryz.prog 87 #[.int .u8 k] w fun e w' => e = .returned (V (smK k) (smB k) E0) ∧ Below w.heap.size w w' := by
  by_cases c : 1 ≤ k ∧ k ≤ 17
  · rcases f : fitOk k 1 with _ | _
    · have e1 : smK k = zeroK k := by unfold smK smO; simp [f]
      have e2 : smB k = 0 := by unfold smB smO; simp [f]
      rw [e1, e2]
      exact sample_no k _ 1 w rfl (fun w => Int_no k 1 w hk c (by decide) f) (Zero_of k)
    · have e1 : smK k = k := by unfold smK smO; simp [f, c]
      have e2 : smB k = 1 := by unfold smB smO; simp [f, c]
      rw [e1, e2]
      exact sample_yes k w (fun w => Int_yes k 1 w hk c (by decide) f)
  · have e1 : smK k = zeroK k := by unfold smK smO; simp [c]
    have e2 : smB k = 0 := by unfold smB smO; simp [c]
    rw [e1, e2]
    exact sample_no k _ 8 w rfl (fun w => Int_x k 1 w hk c) (Zero_of k)
end Go.Proofs.YtpaibmganlaaeaaGreatDoor
namespace Go.Proofs.YtpaibmganlaaeaaGreatDoor
set_option linter.unusedVariables false
open Go.RowKit
theorem call_bits (n : Nat) (w : World) : (callFunc 135 #[.float .f64 n]).run Tryz.prog w = .ok (.value (.int .u64 n)) w :=
  (run_callFunc_extern (e := Extern.MathFloatBits.float64bits) Tryz.func135 (by kernel_rfl) (by kernel_rfl) (by kernel_rfl) (by kernel_rfl) _ w).trans rfl
/-- The bits of the LREAL of a float. -/
def lrealB (n : Nat) : Int := if fnan n then 9221120237041090561 else n
theorem lrealB_t {n : Nat} (h : fnan n = true) : lrealB n = 9221120237041090561 := by simp [lrealB, h]
theorem lrealB_f {n : Nat} (h : fnan n = false) : lrealB n = n := by simp [lrealB, h]
set_option maxHeartbeats 400000 in
theorem Lreal_of (n : Nat) (w : World) :
    Calls Tryz.prog 95 #[.float .f64 n] w fun e w' => e = .returned (V 18 (lrealB n) E0) ∧ Below w.heap.size w w' := by
  have hx := call_bits
  cases h : fnan n
  · have g : (FloatKind.f64.format.order n n != some .eq) = false := by rw [order_self_ne, h]
    rw [lrealB_f h]
    clear h
    go_enter Tryz.func95, Tryz.ntmps95
    go_wp2
    exact bodyPost_ret (v := V 18 n E0) (by simp [results, Tryz.results95, go_sem]) rfl ⟨rfl, (Below.refl _ _).alloc (Nat.le_refl _) _⟩
  · have g : (FloatKind.f64.format.order n n != some .eq) = true := by rw [order_self_ne, h]
    rw [lrealB_t h]
    clear h
    go_enter Tryz.func95, Tryz.ntmps95
    go_wp2
    exact bodyPost_ret (v := V 18 9221120237041090561 E0) (by simp [results, Tryz.results95, go_sem]) rfl ⟨rfl, (Below.refl _ _).alloc (Nat.le_refl _) _⟩
theorem nat_xor_mask (x w : Nat) (h : x < 2 ^ w) : x ^^^ (2 ^ w - 1) = 2 ^ w - (x + 1) := by
  apply Nat.eq_of_testBit_eq
  intro i
  rw [Nat.testBit_xor, Nat.testBit_two_pow_sub_one, Nat.testBit_two_pow_sub_succ h]
  by_cases c : i < w
  · simp [c]
  · have : x.testBit i = false := Nat.testBit_lt_two_pow (Nat.lt_of_lt_of_le h (Nat.pow_le_pow_right (by omega) (by omega)))
    simp [c, this]
/-- All bits of a kind turned. -/
def notB (k b : Int) : Int := (if k = 1 then 1 else if k = 10 then 255 else if k = 11 then 65535 else if k = 12 then 4294967295 else 18446744073709551615) - b
theorem xor_mask (w : Nat) (m b : Int) (e : m = ((2 ^ w - 1 : Nat) : Int)) (hw : w ≤ 64) (h0 : 0 ≤ b) (h1 : b ≤ m) : bits .xor .u64 b m = m - b := by
  have hp : 2 ^ w ≤ 2 ^ 64 := Nat.pow_le_pow_right (by omega) hw
  have hq : 0 < 2 ^ w := Nat.two_pow_pos w
  have h64 : (2 : Nat) ^ 64 = 18446744073709551616 := by decide
  rw [u64_xor b m h0 (by omega) (by omega) (by omega)]
  have e2 : m.toNat = 2 ^ w - 1 := by omega
  rw [e2, nat_xor_mask b.toNat w (by omega)]
  omega
/-- The bits of a float with the other sign. -/
def flipN (b : Int) : Nat := b.toNat ^^^ 9223372036854775808
theorem negFloat_flip (b : Int) : Op.negFloat .f64 b.toNat = flipN b := rfl
end Go.Proofs.YtpaibmganlaaeaaGreatDoor
namespace Go.Proofs.YtpaibmganlaaeaaGreatDoor
set_option linter.unusedVariables false
open Go.RowKit
section
variable (op k b : Int) (s : ByteArray) (w : World)
set_option maxHeartbeats 1000000 in
theorem Turn_x (h0 : 0 ≤ b) (h1 : b < 18446744073709551616) (hk : 0 ≤ k ∧ k < 256) (hs : s.size ≤ maxLen) (c : may3 k b s = false) :
    Calls Tryz.prog 89 #[.int .i64 op, V k b s] w fun e w' => e = .returned (.tuple #[V 0 0 E0, .int .i64 8]) ∧ Below w.heap.size w w' := by
  go_enter Tryz.func89, Tryz.ntmps89
  go_wp2_with (first | (go_at_call 15; refine (May_of _ _ _ _ h0 h1 hk hs).mono ?_; rintro e w1 ⟨rfl, hb⟩; obtain ⟨z0, z1, q0, q1, q2, q3, q4, q5, q6, HB⟩ := step_box hb; clear hb) | go_in)
  exact bodyPost_ret (v := .tuple #[V 0 0 E0, .int .i64 8]) (by simp [results, Tryz.results89, go_sem, q3, q4, q5]) rfl ⟨rfl, ((HB.setCell (by simp) _).setCell (by simp) _).setCell (by simp) _⟩
set_option maxHeartbeats 1000000 in
theorem Turn_y (h0 : 0 ≤ b) (h1 : b < 18446744073709551616) (hk : 0 ≤ k ∧ k < 256) (hs : s.size ≤ maxLen) (c : may3 k b s = true) (o1 : (op == 15) = false) (o2 : (op == 16) = false) :
    Calls Tryz.prog 89 #[.int .i64 op, V k b s] w fun e w' => e = .returned (.tuple #[V 0 0 E0, .int .i64 8]) ∧ Below w.heap.size w w' := by
  go_enter Tryz.func89, Tryz.ntmps89
  go_wp2_with (first | (go_at_call 15; refine (May_of _ _ _ _ h0 h1 hk hs).mono ?_; rintro e w1 ⟨rfl, hb⟩; obtain ⟨z0, z1, q0, q1, q2, q3, q4, q5, q6, HB⟩ := step_box hb; clear hb) | go_in)
  exact bodyPost_ret (v := .tuple #[V 0 0 E0, .int .i64 8]) (by simp [results, Tryz.results89, go_sem, q3, q4, q5]) rfl ⟨rfl, ((HB.setCell (by simp) _).setCell (by simp) _).setCell (by simp) _⟩
set_option maxHeartbeats 2000000 in
theorem Turn_z (h0 : 0 ≤ b) (h1 : b < 18446744073709551616) (hk : 0 ≤ k ∧ k < 256) (hs : s.size ≤ maxLen) (c : may3 k b s = true) (d : ¬ (2 ≤ k ∧ k ≤ 5) ∧ ¬ k = 14 ∧ ¬ k = 18) :
    Calls Tryz.prog 89 #[.int .i64 15, V k b s] w fun e w' => e = .returned (.tuple #[V 0 0 E0, .int .i64 8]) ∧ Below w.heap.size w w' := by
  obtain ⟨d1, d2, d3⟩ := d
  have e2 : (k == 14) = false := by simpa using d2
  have e3 : (k == 18) = false := by simpa using d3
  have dd : k < 2 ∨ 5 < k := by omega
  clear d1 d2 d3
  rcases dd with d1 | d1
  all_goals
    go_enter Tryz.func89, Tryz.ntmps89
    go_wp2_with (first | (go_at_call 15; refine (May_of _ _ _ _ h0 h1 hk hs).mono ?_; rintro e w1 ⟨rfl, hb⟩; obtain ⟨z0, z1, q0, q1, q2, q3, q4, q5, q6, HB⟩ := step_box hb; clear hb) | go_in)
    exact bodyPost_ret (v := .tuple #[V 0 0 E0, .int .i64 8]) (by simp [results, Tryz.results89, go_sem, q3, q4, q5]) rfl ⟨rfl, ((HB.setCell (by simp) _).setCell (by simp) _).setCell (by simp) _⟩
set_option maxHeartbeats 2000000 in
theorem Turn_u (h0 : 0 ≤ b) (h1 : b < 18446744073709551616) (hk : 0 ≤ k ∧ k < 256) (hs : s.size ≤ maxLen) (c : may3 k b s = true) (d : ¬ k = 1 ∧ ¬ (10 ≤ k ∧ k ≤ 13)) :
    Calls Tryz.prog 89 #[.int .i64 16, V k b s] w fun e w' => e = .returned (.tuple #[V 0 0 E0, .int .i64 8]) ∧ Below w.heap.size w w' := by
  obtain ⟨d1, d2⟩ := d
  have e2 : (k == 1) = false := by simpa using d1
  have dd : k < 10 ∨ 13 < k := by omega
  clear d1 d2
  rcases dd with d1 | d1
  all_goals
    go_enter Tryz.func89, Tryz.ntmps89
    go_wp2_with (first | (go_at_call 15; refine (May_of _ _ _ _ h0 h1 hk hs).mono ?_; rintro e w1 ⟨rfl, hb⟩; obtain ⟨z0, z1, q0, q1, q2, q3, q4, q5, q6, HB⟩ := step_box hb; clear hb) | go_in)
    exact bodyPost_ret (v := .tuple #[V 0 0 E0, .int .i64 8]) (by simp [results, Tryz.results89, go_sem, q3, q4, q5]) rfl ⟨rfl, ((HB.setCell (by simp) _).setCell (by simp) _).setCell (by simp) _⟩
set_option maxHeartbeats 1000000 in
theorem Turn_f (h0 : 0 ≤ b) (h1 : b < 18446744073709551616) (hs : s.size ≤ maxLen) (c : may3 18 b s = true) :
    Calls Tryz.prog 89 #[.int .i64 15, V 18 b s] w fun e w' => e = .returned (.tuple #[V 18 (lrealB (flipN b)) E0, .int .i64 0]) ∧ Below w.heap.size w w' := by
  have hx := call_frombits
  have hn : ∀ w, (Op.unary UnOp.neg (.float .f64 b.toNat)).run Tryz.prog w = .ok (.float .f64 (flipN b)) w := fun _ => rfl
  go_enter Tryz.func89, Tryz.ntmps89
  go_wp2_with (first | (go_at_call 15; refine (May_of _ _ _ _ h0 h1 (by omega) hs).mono ?_; rintro e w1 ⟨rfl, hb⟩; obtain ⟨z0, z1, q0, q1, q2, q3, q4, q5, q6, HB⟩ := step_box hb; clear hb) | (go_at_call 95; refine (Lreal_of _ _).mono ?_; rintro e w2 ⟨rfl, hb2⟩; obtain ⟨y0, y1, n0, n1, n2⟩ := step2 hb2 z0 z1) | go_in)
  exact bodyPost_ret (v := .tuple #[V 18 (lrealB (flipN b)) E0, .int .i64 0]) (by simp [results, Tryz.results89, go_sem, n1, q3, q4, q5]) rfl ⟨rfl, (((HB.trans (hb2.mono (Nat.le_of_lt z0))).setCell (by simp) _).setCell (by simp) _).setCell (by simp) _⟩
set_option maxHeartbeats 400000 in
theorem width_1 (w : World) : Calls Tryz.prog 84 #[.int .u8 1] w fun e w' => e = .returned (.int .u64 1) ∧ w' = w := by
  go_enter Tryz.func84, Tryz.ntmps84
  go_wp2
  go_ret
  exact ⟨rfl, rfl⟩
theorem xor_1 (b : Int) (h0 : 0 ≤ b) (h1 : b ≤ 1) : bits .xor .u64 b 1 = notB 1 b := by
  rw [xor_mask 1 1 b (by decide) (by omega) h0 h1]; rfl
set_option maxHeartbeats 1000000 in
theorem Turn_n1 (b : Int) (s : ByteArray) (w : World) (h0 : 0 ≤ b) (h1 : b < 18446744073709551616) (hs : s.size ≤ maxLen) (c : may3 1 b s = true) (g : b ≤ 1) :
    Calls Tryz.prog 89 #[.int .i64 16, V 1 b s] w fun e w' => e = .returned (.tuple #[V 1 (notB 1 b) E0, .int .i64 0]) ∧ Below w.heap.size w w' := by
  have X : Hid (bits .xor .u64 b (IntKind.u64.wrap (IntKind.u64.wrap 2 - 1)) = notB 1 b) := by show _ = _; rw [show IntKind.u64.wrap (IntKind.u64.wrap 2 - 1) = 1 from by rw [IntKind.wrap_u64, IntKind.wrap_u64]; decide]; exact xor_1 b h0 g
  go_enter Tryz.func89, Tryz.ntmps89
  go_wp2_with (first | (go_at_call 15; refine (May_of _ _ _ _ h0 h1 (by omega) hs).mono ?_; rintro e w1 ⟨rfl, hb⟩; obtain ⟨z0, z1, q0, q1, q2, q3, q4, q5, q6, HB⟩ := step_box hb; clear hb) | go_in)
  have HB : Hid (Below w.heap.size w w1) := HB
  go_region_held3 (fun w' => w'.cell? ⟨w.heap.size, 0, none⟩ = some (.int .u8 1) ∧ w'.cell? ⟨w.heap.size, 1, none⟩ = some (.int .u64 b) ∧ w'.cell? ⟨w.heap.size, 2, none⟩ = some (.string s)) (go_keep)
    (first | (go_at_call 84; refine (width_1 _).mono ?_; rintro e w2 ⟨rfl, rfl⟩))
  have B := HB.out.drew
  go_wp2
  exact bodyPost_ret (v := .tuple #[V 1 (notB 1 b) E0, .int .i64 0]) (by simp [results, Tryz.results89, go_sem, X.out, q3, q4, q5]) rfl ⟨rfl, ((B.setCell (by simp) _).setCell (by simp) _).setCell (by simp) _⟩
set_option maxHeartbeats 400000 in
theorem width_10 (w : World) : Calls Tryz.prog 84 #[.int .u8 10] w fun e w' => e = .returned (.int .u64 8) ∧ w' = w := by
  go_enter Tryz.func84, Tryz.ntmps84
  go_wp2
  go_ret
  exact ⟨rfl, rfl⟩
theorem xor_10 (b : Int) (h0 : 0 ≤ b) (h1 : b ≤ 255) : bits .xor .u64 b 255 = notB 10 b := by
  rw [xor_mask 8 255 b (by decide) (by omega) h0 h1]; rfl
set_option maxHeartbeats 1000000 in
theorem Turn_n10 (b : Int) (s : ByteArray) (w : World) (h0 : 0 ≤ b) (h1 : b < 18446744073709551616) (hs : s.size ≤ maxLen) (c : may3 10 b s = true) (g : b ≤ 255) :
    Calls Tryz.prog 89 #[.int .i64 16, V 10 b s] w fun e w' => e = .returned (.tuple #[V 10 (notB 10 b) E0, .int .i64 0]) ∧ Below w.heap.size w w' := by
  have X : Hid (bits .xor .u64 b (IntKind.u64.wrap (IntKind.u64.wrap 256 - 1)) = notB 10 b) := by show _ = _; rw [show IntKind.u64.wrap (IntKind.u64.wrap 256 - 1) = 255 from by rw [IntKind.wrap_u64, IntKind.wrap_u64]; decide]; exact xor_10 b h0 g
  go_enter Tryz.func89, Tryz.ntmps89
  go_wp2_with (first | (go_at_call 15; refine (May_of _ _ _ _ h0 h1 (by omega) hs).mono ?_; rintro e w1 ⟨rfl, hb⟩; obtain ⟨z0, z1, q0, q1, q2, q3, q4, q5, q6, HB⟩ := step_box hb; clear hb) | go_in)
  have HB : Hid (Below w.heap.size w w1) := HB
  go_region_held3 (fun w' => w'.cell? ⟨w.heap.size, 0, none⟩ = some (.int .u8 10) ∧ w'.cell? ⟨w.heap.size, 1, none⟩ = some (.int .u64 b) ∧ w'.cell? ⟨w.heap.size, 2, none⟩ = some (.string s)) (go_keep)
    (first | (go_at_call 84; refine (width_10 _).mono ?_; rintro e w2 ⟨rfl, rfl⟩))
  have B := HB.out.drew
  go_wp2
  exact bodyPost_ret (v := .tuple #[V 10 (notB 10 b) E0, .int .i64 0]) (by simp [results, Tryz.results89, go_sem, X.out, q3, q4, q5]) rfl ⟨rfl, ((B.setCell (by simp) _).setCell (by simp) _).setCell (by simp) _⟩
set_option maxHeartbeats 400000 in
theorem width_11 (w : World) : Calls Tryz.prog 84 #[.int .u8 11] w fun e w' => e = .returned (.int .u64 16) ∧ w' = w := by
  go_enter Tryz.func84, Tryz.ntmps84
  go_wp2
  go_ret
  exact ⟨rfl, rfl⟩
theorem xor_11 (b : Int) (h0 : 0 ≤ b) (h1 : b ≤ 65535) : bits .xor .u64 b 65535 = notB 11 b := by
  rw [xor_mask 16 65535 b (by decide) (by omega) h0 h1]; rfl
set_option maxHeartbeats 1000000 in
theorem Turn_n11 (b : Int) (s : ByteArray) (w : World) (h0 : 0 ≤ b) (h1 : b < 18446744073709551616) (hs : s.size ≤ maxLen) (c : may3 11 b s = true) (g : b ≤ 65535) :
    Calls Tryz.prog 89 #[.int .i64 16, V 11 b s] w fun e w' => e = .returned (.tuple #[V 11 (notB 11 b) E0, .int .i64 0]) ∧ Below w.heap.size w w' := by
  have X : Hid (bits .xor .u64 b (IntKind.u64.wrap (IntKind.u64.wrap 65536 - 1)) = notB 11 b) := by show _ = _; rw [show IntKind.u64.wrap (IntKind.u64.wrap 65536 - 1) = 65535 from by rw [IntKind.wrap_u64, IntKind.wrap_u64]; decide]; exact xor_11 b h0 g
  go_enter Tryz.func89, Tryz.ntmps89
  go_wp2_with (first | (go_at_call 15; refine (May_of _ _ _ _ h0 h1 (by omega) hs).mono ?_; rintro e w1 ⟨rfl, hb⟩; obtain ⟨z0, z1, q0, q1, q2, q3, q4, q5, q6, HB⟩ := step_box hb; clear hb) | go_in)
  have HB : Hid (Below w.heap.size w w1) := HB
  go_region_held3 (fun w' => w'.cell? ⟨w.heap.size, 0, none⟩ = some (.int .u8 11) ∧ w'.cell? ⟨w.heap.size, 1, none⟩ = some (.int .u64 b) ∧ w'.cell? ⟨w.heap.size, 2, none⟩ = some (.string s)) (go_keep)
    (first | (go_at_call 84; refine (width_11 _).mono ?_; rintro e w2 ⟨rfl, rfl⟩))
  have B := HB.out.drew
  go_wp2
  exact bodyPost_ret (v := .tuple #[V 11 (notB 11 b) E0, .int .i64 0]) (by simp [results, Tryz.results89, go_sem, X.out, q3, q4, q5]) rfl ⟨rfl, ((B.setCell (by simp) _).setCell (by simp) _).setCell (by simp) _⟩
set_option maxHeartbeats 400000 in
theorem width_12 (w : World) : Calls Tryz.prog 84 #[.int .u8 12] w fun e w' => e = .returned (.int .u64 32) ∧ w' = w := by
  go_enter Tryz.func84, Tryz.ntmps84
  go_wp2
  go_ret
  exact ⟨rfl, rfl⟩
theorem xor_12 (b : Int) (h0 : 0 ≤ b) (h1 : b ≤ 4294967295) : bits .xor .u64 b 4294967295 = notB 12 b := by
  rw [xor_mask 32 4294967295 b (by decide) (by omega) h0 h1]; rfl
set_option maxHeartbeats 1000000 in
theorem Turn_n12 (b : Int) (s : ByteArray) (w : World) (h0 : 0 ≤ b) (h1 : b < 18446744073709551616) (hs : s.size ≤ maxLen) (c : may3 12 b s = true) (g : b ≤ 4294967295) :
    Calls Tryz.prog 89 #[.int .i64 16, V 12 b s] w fun e w' => e = .returned (.tuple #[V 12 (notB 12 b) E0, .int .i64 0]) ∧ Below w.heap.size w w' := by
  have X : Hid (bits .xor .u64 b (IntKind.u64.wrap (IntKind.u64.wrap 4294967296 - 1)) = notB 12 b) := by show _ = _; rw [show IntKind.u64.wrap (IntKind.u64.wrap 4294967296 - 1) = 4294967295 from by rw [IntKind.wrap_u64, IntKind.wrap_u64]; decide]; exact xor_12 b h0 g
  go_enter Tryz.func89, Tryz.ntmps89
  go_wp2_with (first | (go_at_call 15; refine (May_of _ _ _ _ h0 h1 (by omega) hs).mono ?_; rintro e w1 ⟨rfl, hb⟩; obtain ⟨z0, z1, q0, q1, q2, q3, q4, q5, q6, HB⟩ := step_box hb; clear hb) | go_in)
  have HB : Hid (Below w.heap.size w w1) := HB
  go_region_held3 (fun w' => w'.cell? ⟨w.heap.size, 0, none⟩ = some (.int .u8 12) ∧ w'.cell? ⟨w.heap.size, 1, none⟩ = some (.int .u64 b) ∧ w'.cell? ⟨w.heap.size, 2, none⟩ = some (.string s)) (go_keep)
    (first | (go_at_call 84; refine (width_12 _).mono ?_; rintro e w2 ⟨rfl, rfl⟩))
  have B := HB.out.drew
  go_wp2
  exact bodyPost_ret (v := .tuple #[V 12 (notB 12 b) E0, .int .i64 0]) (by simp [results, Tryz.results89, go_sem, X.out, q3, q4, q5]) rfl ⟨rfl, ((B.setCell (by simp) _).setCell (by simp) _).setCell (by simp) _⟩
set_option maxHeartbeats 400000 in
theorem width_13 (w : World) : Calls Tryz.prog 84 #[.int .u8 13] w fun e w' => e = .returned (.int .u64 64) ∧ w' = w := by
  go_enter Tryz.func84, Tryz.ntmps84
  go_wp2
  go_ret
  exact ⟨rfl, rfl⟩
theorem xor_13 (b : Int) (h0 : 0 ≤ b) (h1 : b ≤ 18446744073709551615) : bits .xor .u64 b 18446744073709551615 = notB 13 b := by
  rw [xor_mask 64 18446744073709551615 b (by decide) (by omega) h0 h1]; rfl
set_option maxHeartbeats 1000000 in
theorem Turn_n13 (b : Int) (s : ByteArray) (w : World) (h0 : 0 ≤ b) (h1 : b < 18446744073709551616) (hs : s.size ≤ maxLen) (c : may3 13 b s = true) (g : b ≤ 18446744073709551615) :
    Calls Tryz.prog 89 #[.int .i64 16, V 13 b s] w fun e w' => e = .returned (.tuple #[V 13 (notB 13 b) E0, .int .i64 0]) ∧ Below w.heap.size w w' := by
  have X : Hid (bits .xor .u64 b (IntKind.u64.wrap (IntKind.u64.wrap 18446744073709551616 - 1)) = notB 13 b) := by show _ = _; rw [show IntKind.u64.wrap (IntKind.u64.wrap 18446744073709551616 - 1) = 18446744073709551615 from by rw [IntKind.wrap_u64, IntKind.wrap_u64]; decide]; exact xor_13 b h0 g
  go_enter Tryz.func89, Tryz.ntmps89
  go_wp2_with (first | (go_at_call 15; refine (May_of _ _ _ _ h0 h1 (by omega) hs).mono ?_; rintro e w1 ⟨rfl, hb⟩; obtain ⟨z0, z1, q0, q1, q2, q3, q4, q5, q6, HB⟩ := step_box hb; clear hb) | go_in)
  have HB : Hid (Below w.heap.size w w1) := HB
  go_region_held3 (fun w' => w'.cell? ⟨w.heap.size, 0, none⟩ = some (.int .u8 13) ∧ w'.cell? ⟨w.heap.size, 1, none⟩ = some (.int .u64 b) ∧ w'.cell? ⟨w.heap.size, 2, none⟩ = some (.string s)) (go_keep)
    (first | (go_at_call 84; refine (width_13 _).mono ?_; rintro e w2 ⟨rfl, rfl⟩))
  have B := HB.out.drew
  go_wp2
  exact bodyPost_ret (v := .tuple #[V 13 (notB 13 b) E0, .int .i64 0]) (by simp [results, Tryz.results89, go_sem, X.out, q3, q4, q5]) rfl ⟨rfl, ((B.setCell (by simp) _).setCell (by simp) _).setCell (by simp) _⟩
/-- What a turn of a value comes to. -/
def turnR (op k b : Int) (s : ByteArray) : Value :=
  if may3 k b s = false then .tuple #[V 0 0 E0, .int .i64 8]
  else if op = 15 ∧ (2 ≤ k ∧ k ≤ 5 ∨ k = 14) then (if fitOk k (-num k b) then .tuple #[V k ((-num k b) % 18446744073709551616) E0, .int .i64 0] else .tuple #[V 0 0 E0, .int .i64 1])
  else if op = 15 ∧ k = 18 then .tuple #[V 18 (lrealB (flipN b)) E0, .int .i64 0]
  else if op = 16 ∧ (k = 1 ∨ 10 ≤ k ∧ k ≤ 13) then .tuple #[V k (notB k b) E0, .int .i64 0] else .tuple #[V 0 0 E0, .int .i64 8]
theorem may_wT {k b : Int} {s : ByteArray} (c : may3 k b s = true) (h : ¬ k = 19) : mayW k b = true ∧ s.toList = [] := by
  simp [may3, h] at c; exact ⟨c.2, c.1⟩
theorem Turn_of (h0 : 0 ≤ b) (h1 : b < 18446744073709551616) (hk : 0 ≤ k ∧ k < 256) (hs : s.size ≤ maxLen) :
    Calls Tryz.prog 89 #[.int .i64 op, V k b s] w fun e w' => e = .returned (turnR op k b s) ∧ Below w.heap.size w w' := by
  unfold turnR
  cases c : may3 k b s
  · rw [if_pos rfl]; exact Turn_x op k b s w h0 h1 hk hs c
  rw [if_neg (by simp)]
  by_cases o1 : op = 15
  · subst o1
    by_cases d : 2 ≤ k ∧ k ≤ 5 ∨ k = 14
    · rw [if_pos ⟨rfl, d⟩]
      cases f : fitOk k (-num k b)
      · rw [if_neg (by simp)]
        rcases d with ⟨d1, d2⟩ | rfl
        · exact Turn_neg_no_s k b s w h0 h1 hk hs c d1 d2 f
        · exact Turn_neg_no_t b s w h0 h1 hk hs c f
      · rw [if_pos rfl]
        rcases d with ⟨d1, d2⟩ | rfl
        · exact Turn_neg_yes_s k b s w h0 h1 hk hs c d1 d2 f
        · exact Turn_neg_yes_t b s w h0 h1 hk hs c f
    rw [if_neg (fun h => d h.2)]
    by_cases e : k = 18
    · subst e
      rw [if_pos ⟨rfl, rfl⟩]
      exact Turn_f b s w h0 h1 hs c
    · rw [if_neg (fun h => e h.2), if_neg (by omega)]
      exact Turn_z k b s w h0 h1 hk hs c ⟨fun h => d (.inl h), fun h => d (.inr h), e⟩
  · rw [if_neg (fun h => o1 h.1), if_neg (fun h => o1 h.1)]
    by_cases o2 : op = 16
    · subst o2
      by_cases d : k = 1 ∨ 10 ≤ k ∧ k ≤ 13
      · rw [if_pos ⟨rfl, d⟩]
        have m := (may_wT c (by omega)).1
        have : k = 1 ∨ k = 10 ∨ k = 11 ∨ k = 12 ∨ k = 13 := by omega
        rcases this with rfl | rfl | rfl | rfl | rfl
        · rw [mw1] at m; simp at m; exact Turn_n1 b s w h0 h1 hs c (by omega)
        · rw [mw10] at m; simp at m; exact Turn_n10 b s w h0 h1 hs c (by omega)
        · rw [mw11] at m; simp at m; exact Turn_n11 b s w h0 h1 hs c (by omega)
        · rw [mw12] at m; simp at m; exact Turn_n12 b s w h0 h1 hs c (by omega)
        · exact Turn_n13 b s w h0 h1 hs c (by omega)
      · rw [if_neg (fun h => d h.2)]
        exact Turn_u k b s w h0 h1 hk hs c ⟨fun h => d (.inl h), fun h => d (.inr h)⟩
    · rw [if_neg (fun h => o2 h.1)]
      exact Turn_y op k b s w h0 h1 hk hs c (by simpa using o1) (by simpa using o2)
end
end Go.Proofs.YtpaibmganlaaeaaGreatDoor
namespace Go.Proofs.YtpaibmganlaaeaaGreatDoor
set_option linter.unusedVariables false
open Go.RowKit
/-- What NOT gives of a kind. -/
def tnK (k : Int) : Int := if k = 1 ∨ (10 ≤ k ∧ k ≤ 13) then k else 0
theorem tn_some (k : Int) (hk : 0 ≤ k ∧ k < 256) : ∃ b f, turnR 16 (smK k) (smB k) E0 = .tuple #[V (tnK k) b E0, .int .i64 f] := by
  by_cases c : k = 1 ∨ (10 ≤ k ∧ k ≤ 13)
  · have e : tnK k = k := by unfold tnK; rw [if_pos c]
    rw [e]
    have q : k = 1 ∨ k = 10 ∨ k = 11 ∨ k = 12 ∨ k = 13 := by omega
    rcases q with rfl | rfl | rfl | rfl | rfl
    · exact ⟨notB 1 1, 0, by kernel_rfl⟩
    · exact ⟨notB 10 1, 0, by kernel_rfl⟩
    · exact ⟨notB 11 1, 0, by kernel_rfl⟩
    · exact ⟨notB 12 1, 0, by kernel_rfl⟩
    · exact ⟨notB 13 1, 0, by kernel_rfl⟩
  · have e : tnK k = 0 := by unfold tnK; rw [if_neg c]
    rw [e]
    have d : ¬ (smK k = 1 ∨ 10 ≤ smK k ∧ smK k ≤ 13) := by
      unfold smK zeroK
      split
      · exact c
      · split
        · exact c
        · omega
    unfold turnR
    split
    · exact ⟨0, 8, rfl⟩
    · rw [if_neg (by omega), if_neg (by omega), if_neg (fun h => d h.2)]
      exact ⟨0, 8, rfl⟩
theorem sm_rg (k : Int) (hk : 0 ≤ k ∧ k < 256) : 0 ≤ smK k ∧ smK k < 256 ∧ 0 ≤ smB k ∧ smB k < 18446744073709551616 := by
  unfold smK smB zeroK
  repeat (first | omega | split)
set_option maxRecDepth 20000 in
set_option maxHeartbeats 1000000 in
theorem turned_of (a : Addr) (n cap : Nat) (κ : Nat → Int) (w : World) (hk : KsAt w a n κ) (h0 : 0 < n) (hr : 0 ≤ κ 0 ∧ κ 0 < 256) :
    Calls Tryz.prog 37 #[.int .i64 16, .slice (some a) n cap] w fun e w' => e = .returned (.int .u8 (tnK (κ 0))) ∧ Below w.heap.size w w' := by
  have d0 : w.cell? a = some (.int .u8 (κ 0)) := by have := hk 0 h0; rwa [Addr.add_zero'] at this
  have p0 : (0 : Int) < n := by omega
  have S : Hid _ := fun w => sample_of (κ 0) w hr
  have rg := sm_rg (κ 0) hr
  have T : Hid (∃ b f, ∀ w, Calls Tryz.prog 89 #[.int .i64 16, V (smK (κ 0)) (smB (κ 0)) E0] w fun e w' => e = .returned (.tuple #[V (tnK (κ 0)) b E0, .int .i64 f]) ∧ Below w.heap.size w w') := by
    obtain ⟨b, f, e⟩ := tn_some (κ 0) hr
    exact ⟨b, f, fun w => by rw [← e]; exact Turn_of 16 _ _ _ w rg.2.2.1 rg.2.2.2 ⟨rg.1, rg.2.1⟩ (by decide)⟩
  clear hk rg hr
  generalize κ 0 = k at *
  obtain ⟨b, f, T'⟩ := T.out
  have TT : Hid _ := T'
  clear T T'
  generalize tnK k = t at *
  generalize smK k = sk at *
  generalize smB k = sb at *
  go_enter Tryz.func37, Tryz.ntmps37
  go_wp2_with (first | (go_at_call 87; refine (S.out _).mono ?_; rintro e w1 ⟨rfl, hb⟩; have HB : Hid (Below w.heap.size w w1) := hb; clear hb) | (go_at_call 89; refine (TT.out _).mono ?_; rintro e w2 ⟨rfl, hb⟩; have HB2 : Hid (Below w.heap.size w w2) := HB.out.trans (hb.mono HB.out.size); clear hb))
  go_ret
  exact ⟨rfl, HB2.out.alloc HB2.out.size _⟩
end Go.Proofs.YtpaibmganlaaeaaGreatDoor
namespace Go.Proofs.YtpaibmganlaaeaaGreatDoor
set_option linter.unusedVariables false
open Go.RowKit
/-- Is a number one that an int has? -/
def in64 (n : Int) : Bool := decide (-9223372036854775808 ≤ n ∧ n < 9223372036854775808)
/-- The number that an operation on two numbers comes to. -/
def opI (op a b : Int) : Int := if op = 1 then a + b else if op = 2 then a - b else if op = 3 then a * b else if op = 4 then a.tdiv b else a.tmod b
theorem tdiv_near (p b : Int) (h : b ≠ 0) : (p - p.tdiv b * b).natAbs < b.natAbs := by
  have e : p - p.tdiv b * b = p.tmod b := by have := Int.tmod_add_mul_tdiv p b; rw [Int.mul_comm] at this; omega
  rw [e, Int.natAbs_tmod]
  exact Nat.mod_lt _ (by omega)
theorem tdiv_bd (a b : Int) : (a.tdiv b).natAbs ≤ a.natAbs := by
  rw [Int.natAbs_tdiv]; exact Nat.div_le_self _ _
theorem tmod_bd (a b : Int) : (a.tmod b).natAbs ≤ a.natAbs := by
  rw [Int.natAbs_tmod]; exact Nat.mod_le _ _
theorem mul_fine (a b : Int) (b0 : b ≠ 0) (h : in64 (a * b) = true) : wrap64 (a * b) = a * b ∧ (wrap64 (a * b)).tdiv b = a := by
  have e : wrap64 (a * b) = a * b := by simp [in64] at h; generalize a * b = p at *; unfold wrap64; omega
  rw [e]; exact ⟨rfl, Int.mul_tdiv_cancel _ b0⟩
theorem mul_special (a b : Int) (h : in64 (a * b) = true) : ¬ (a = -1 ∧ b = -9223372036854775808) ∧ ¬ (b = -1 ∧ a = -9223372036854775808) := by
  constructor
  · rintro ⟨rfl, rfl⟩; simp [in64] at h
  · rintro ⟨rfl, rfl⟩; simp [in64] at h
theorem mul_over (a b : Int) (b0 : b ≠ 0) (hb : -9223372036854775808 ≤ b ∧ b < 9223372036854775808) (h : in64 (a * b) = false) : (wrap64 (a * b)).tdiv b ≠ a := by
  intro e
  have n := tdiv_near (wrap64 (a * b)) b b0
  rw [e] at n
  simp [in64] at h
  generalize a * b = p at *
  have : ∃ q, wrap64 p = p - 18446744073709551616 * q := ⟨(p + 9223372036854775808) / 18446744073709551616, by unfold wrap64; omega⟩
  obtain ⟨q, hq⟩ := this
  have hw : -9223372036854775808 ≤ wrap64 p ∧ wrap64 p < 9223372036854775808 := by unfold wrap64; omega
  rw [hq] at n hw
  omega
/-- A quotient that an int has not: only the least number's by -1. -/
theorem tdiv_in (a b : Int) (ha : -9223372036854775808 ≤ a ∧ a < 9223372036854775808) (b0 : b ≠ 0) (b1 : b ≠ -1) : -9223372036854775808 ≤ a.tdiv b ∧ a.tdiv b < 9223372036854775808 := by
  by_cases h1 : b = 1
  · subst h1; simpa using ha
  have h : (a.tdiv b).natAbs = a.natAbs / b.natAbs := Int.natAbs_tdiv a b
  have h2 : a.natAbs / b.natAbs ≤ a.natAbs / 2 := Nat.div_le_div_left (by omega) (by omega)
  generalize a.natAbs / b.natAbs = q at *
  generalize a.tdiv b = t at *
  omega
theorem tmod_in (a b : Int) (ha : -9223372036854775808 ≤ a ∧ a < 9223372036854775808) (b0 : b ≠ 0) : -9223372036854775808 ≤ a.tmod b ∧ a.tmod b < 9223372036854775808 := by
  have h := tmod_bd a b
  by_cases c : 0 ≤ a
  · have := Int.tmod_nonneg b c; omega
  · have e : a.tmod b = -((-a).tmod b) := by rw [Int.neg_tmod]; omega
    have := Int.tmod_nonneg b (show 0 ≤ -a by omega)
    omega
theorem tdiv_m1 (a : Int) : a.tdiv (-1) = -a := by simp
theorem tmod_m1 (a : Int) : a.tmod (-1) = 0 := by simp
/-- Without signs. -/
def inU (n : Int) : Bool := decide (0 ≤ n ∧ n < 18446744073709551616)
theorem umul_over (a b : Int) (a0 : 0 ≤ a) (b0 : 0 < b) (hb : b < 18446744073709551616) (h : inU (a * b) = false) : (a * b) % 18446744073709551616 / b ≠ a := by
  intro e
  have hp : 0 ≤ a * b := Int.mul_nonneg a0 (by omega)
  have h2 := Int.emod_add_mul_ediv ((a * b) % 18446744073709551616) b
  have h3 := Int.emod_lt_of_pos ((a * b) % 18446744073709551616) b0
  have h4 := Int.emod_nonneg ((a * b) % 18446744073709551616) (b := b) (by omega)
  rw [e, Int.mul_comm b a] at h2
  simp [inU] at h
  generalize a * b = p at *
  generalize p % 18446744073709551616 % b = r at *
  omega
theorem umul_fine (a b : Int) (b0 : 0 < b) (h : inU (a * b) = true) : (a * b) % 18446744073709551616 = a * b ∧ (a * b) % 18446744073709551616 / b = a := by
  have e : (a * b) % 18446744073709551616 = a * b := by simp [inU] at h; generalize a * b = p at *; omega
  rw [e]; exact ⟨rfl, Int.mul_ediv_cancel _ (by omega)⟩

/-- Is there room for a number's size? -/
def room (n : Int) : Bool := decide (-18446744073709551616 < n ∧ n < 18446744073709551616)
theorem num_lo (k b : Int) (h0 : 0 ≤ b) (h1 : b < 18446744073709551616) : -9223372036854775808 ≤ num k b ∧ num k b < 18446744073709551616 := num_bd k b h0 h1
theorem fit_out (k n : Int) (h : room n = false) : fitOk k n = false := by
  have b := num_bd k (n % 18446744073709551616) (by omega) (by omega)
  simp [room] at h
  unfold fitOk
  have : decide (num k (n % 18446744073709551616) = n) = false := by simp; omega
  rw [this]; simp
theorem mE (k b : Int) (h : ¬ k = 19) : may3 k b E0 = mayW k b := by
  have e : E0.toList = [] := (toList_nil_iff_emptyBytes E0).2 rfl
  simp [may3, h, e]
/-- Kinds whose numbers are told with a sign. -/
def sK (k : Int) : Prop := 2 ≤ k ∧ k ≤ 5 ∨ 14 ≤ k ∧ k ≤ 17
theorem mw_hi (k b : Int) (hk : 15 ≤ k ∧ k ≤ 17) (h : 9223372036854775808 ≤ b) : mayW k b = false := by
  have : k = 15 ∨ k = 16 ∨ k = 17 := by omega
  rcases this with rfl | rfl | rfl
  · exact mw15f b (by omega)
  · rw [mw16]; simp; omega
  · rw [mw17]; simp; omega
theorem fit_in (k n : Int) (hk : sK k) (h : in64 n = true) : fitOk k n = mayW k (n % 18446744073709551616) := by
  simp [in64] at h
  unfold fitOk
  have hn : ¬ k = 19 := by unfold sK at hk; omega
  rw [mE k _ hn]
  by_cases d : 2 ≤ k ∧ k ≤ 5 ∨ k = 14
  · have e : num k (n % 18446744073709551616) = n := by rw [num_s d]; unfold wrap64; omega
    rw [e]; simp
  · rw [num_u d]
    by_cases c : 0 ≤ n
    · have e : n % 18446744073709551616 = n := by omega
      rw [e]; simp
    · rw [mw_hi k _ (by unfold sK at hk; omega) (by omega)]; simp
theorem fit_over (k n : Int) (hk : sK k) (h : in64 n = false) : fitOk k n = false := by
  cases r : room n
  · exact fit_out k n r
  simp [in64] at h
  simp [room] at r
  unfold fitOk
  have hn : ¬ k = 19 := by unfold sK at hk; omega
  rw [mE k _ hn]
  by_cases d : 2 ≤ k ∧ k ≤ 5 ∨ k = 14
  · have e : ¬ num k (n % 18446744073709551616) = n := by rw [num_s d]; unfold wrap64; omega
    simp [e]
  · rw [num_u d]
    by_cases c : 0 ≤ n
    · rw [mw_hi k _ (by unfold sK at hk; omega) (by omega)]; simp
    · have e : ¬ n % 18446744073709551616 = n := by omega
      simp [e]
theorem fit_u (k n : Int) (hk : 6 ≤ k ∧ k ≤ 9) (h : inU n = true) : fitOk k n = mayW k n := by
  simp [inU] at h
  unfold fitOk
  rw [mE k _ (by omega), num_u (by omega)]
  have e : n % 18446744073709551616 = n := by omega
  rw [e]; simp
theorem fit_uover (k n : Int) (hk : 6 ≤ k ∧ k ≤ 9) (h : inU n = false) : fitOk k n = false := by
  simp [inU] at h
  unfold fitOk
  rw [mE k _ (by omega), num_u (by omega)]
  have e : ¬ n % 18446744073709551616 = n := by omega
  simp [e]
end Go.Proofs.YtpaibmganlaaeaaGreatDoor
