/- What times.Parse answers where its readers are known; no statement of the seat is proved here. -/
import Derived.Test.YtpdnlojennhmpaaDoorPqI
import Derived.Test.YtpdnlojennhmpaaDoorPqW
import Derived.Test.YtpdnlojennhmpaaDoorIntV
namespace Go.Proofs.YtpdnlojennhmpaaDoor
set_option linter.unusedVariables false
open Go.RowKit
section
variable (s : ByteArray) (w : World)
set_option maxRecDepth 100000 in
set_option maxHeartbeats 2000000 in
theorem PcX (k : Int) (hk : 0 ≤ k ∧ k < 256) (h : ¬ (14 ≤ k ∧ k ≤ 17)) : Calls Tryd.prog 4 #[.int .u8 k, .string s] w fun e w' => e = .returned (.tuple #[V 0 0 E0, .bool false]) ∧ Below w.heap.size w w' := by
  have k14 : (k == 14) = false := by simp; omega
  have k15 : (k == 15) = false := by simp; omega
  have k16 : (k == 16) = false := by simp; omega
  have k17 : (k == 17) = false := by simp; omega
  go_enter Tryd.func4, Tryd.ntmps4
  go_wp2
  exact bodyPost_ret (v := .tuple #[V 0 0 E0, .bool false]) (by simp [results, Tryd.results4, go_sem]) rfl ⟨rfl, (Below.refl _ _).alloc (Nat.le_refl _) _⟩
set_option maxRecDepth 100000 in
set_option maxHeartbeats 2000000 in
theorem PcY_14 (n : Int) (n0 : -9223372036854775808 ≤ n) (n1 : n < 9223372036854775808) (hf : fitOk 14 n = true) (R : ∀ w1, Below w.heap.size w w1 → Calls Tryd.prog 6 #[.string s] w1 fun e w' => e = .returned (.tuple #[.int .i64 n, .bool true]) ∧ Below w1.heap.size w1 w') : Calls Tryd.prog 4 #[.int .u8 14, .string s] w fun e w' => e = .returned (.tuple #[V 14 (n % 18446744073709551616) E0, .bool true]) ∧ Below w.heap.size w w' := by
  have RR : Hid _ := R
  have I : Hid (∀ w, Calls Tryd.prog 10 #[.int .u8 14, .int .i64 n] w fun e w' => e = .returned (.tuple #[V 14 (n % 18446744073709551616) E0, .int .i64 0]) ∧ Below w.heap.size w w') := fun w => by
    have := Int_of 14 n w (by omega) ⟨n0, n1⟩
    rwa [intR, if_pos (by omega), if_pos hf] at this
  generalize n % 18446744073709551616 = b at *
  clear R hf
  go_enter Tryd.func4, Tryd.ntmps4
  go_wp2_with fail
  refine (RR.out _ ((Below.refl _ _).alloc (Nat.le_refl _) _)).mono ?_
  rintro e w1 ⟨rfl, hb⟩
  obtain ⟨c1, f1, z1, B1⟩ := bb1q hb
  clear hb
  go_wp2_with fail
  refine (I.out _).mono ?_
  rintro e w2 ⟨rfl, hb2⟩
  have k2 := (fun o => hb2.cell (p := ⟨w.heap.size, o, none⟩) z1)
  have j2 := (fun o => hb2.frozen (p := ⟨w.heap.size, o, none⟩) z1)
  have z2 := Nat.lt_of_lt_of_le z1 hb2.size
  have B2 := B1.trans (hb2.mono (Nat.le_of_lt z1))
  clear hb2
  go_wp2
  have v0 : w2.cell? ⟨w.heap.size, 0, none⟩ = some (.int .u8 0) := by rw [k2, c1]; simp
  have v1 : w2.cell? ⟨w.heap.size, 1, none⟩ = some (.int .u64 0) := by rw [k2, c1]; simp
  have v2 : w2.cell? ⟨w.heap.size, 2, none⟩ = some (.string ⟨#[]⟩) := by rw [k2, c1]; simp
  obtain ⟨g0, g1, g2⟩ := q_three_set v0 v1 v2 (.int .u8 14) (.int .u64 b) (.string E0)
  refine bodyPost_ret (v := .tuple #[V 14 b E0, .bool true]) (by simp [results, Tryd.results4, go_sem, g0, g1, g2, World.cell?_alloc_some]) rfl ⟨rfl, ?_⟩
  go_grown
set_option maxRecDepth 100000 in
set_option maxHeartbeats 2000000 in
theorem PcN_14 (n : Int) (R : ∀ w1, Below w.heap.size w w1 → Calls Tryd.prog 6 #[.string s] w1 fun e w' => e = .returned (.tuple #[.int .i64 n, .bool false]) ∧ Below w1.heap.size w1 w') : Calls Tryd.prog 4 #[.int .u8 14, .string s] w fun e w' => e = .returned (.tuple #[V 0 0 E0, .bool false]) ∧ Below w.heap.size w w' := by
  have RR : Hid _ := R
  clear R
  go_enter Tryd.func4, Tryd.ntmps4
  go_wp2_with fail
  refine (RR.out _ ((Below.refl _ _).alloc (Nat.le_refl _) _)).mono ?_
  rintro e w1 ⟨rfl, hb⟩
  obtain ⟨c1, f1, z1, B1⟩ := bb1q hb
  clear hb
  go_wp2
  have v0 : w1.cell? ⟨w.heap.size, 0, none⟩ = some (.int .u8 0) := by rw [c1]; simp
  have v1 : w1.cell? ⟨w.heap.size, 1, none⟩ = some (.int .u64 0) := by rw [c1]; simp
  have v2 : w1.cell? ⟨w.heap.size, 2, none⟩ = some (.string ⟨#[]⟩) := by rw [c1]; simp
  refine bodyPost_ret (v := .tuple #[V 0 0 E0, .bool false]) (by simp [results, Tryd.results4, go_sem, v0, v1, v2]) rfl ⟨rfl, ?_⟩
  go_grown
set_option maxRecDepth 100000 in
set_option maxHeartbeats 2000000 in
theorem PcY_15 (n : Int) (n0 : -9223372036854775808 ≤ n) (n1 : n < 9223372036854775808) (hf : fitOk 15 n = true) (R : ∀ w1, Below w.heap.size w w1 → Calls Tryd.prog 7 #[.string s] w1 fun e w' => e = .returned (.tuple #[.int .i64 n, .bool true]) ∧ Below w1.heap.size w1 w') : Calls Tryd.prog 4 #[.int .u8 15, .string s] w fun e w' => e = .returned (.tuple #[V 15 (n % 18446744073709551616) E0, .bool true]) ∧ Below w.heap.size w w' := by
  have RR : Hid _ := R
  have I : Hid (∀ w, Calls Tryd.prog 10 #[.int .u8 15, .int .i64 n] w fun e w' => e = .returned (.tuple #[V 15 (n % 18446744073709551616) E0, .int .i64 0]) ∧ Below w.heap.size w w') := fun w => by
    have := Int_of 15 n w (by omega) ⟨n0, n1⟩
    rwa [intR, if_pos (by omega), if_pos hf] at this
  generalize n % 18446744073709551616 = b at *
  clear R hf
  go_enter Tryd.func4, Tryd.ntmps4
  go_wp2_with fail
  refine (RR.out _ ((Below.refl _ _).alloc (Nat.le_refl _) _)).mono ?_
  rintro e w1 ⟨rfl, hb⟩
  obtain ⟨c1, f1, z1, B1⟩ := bb1q hb
  clear hb
  go_wp2_with fail
  refine (I.out _).mono ?_
  rintro e w2 ⟨rfl, hb2⟩
  have k2 := (fun o => hb2.cell (p := ⟨w.heap.size, o, none⟩) z1)
  have j2 := (fun o => hb2.frozen (p := ⟨w.heap.size, o, none⟩) z1)
  have z2 := Nat.lt_of_lt_of_le z1 hb2.size
  have B2 := B1.trans (hb2.mono (Nat.le_of_lt z1))
  clear hb2
  go_wp2
  have v0 : w2.cell? ⟨w.heap.size, 0, none⟩ = some (.int .u8 0) := by rw [k2, c1]; simp
  have v1 : w2.cell? ⟨w.heap.size, 1, none⟩ = some (.int .u64 0) := by rw [k2, c1]; simp
  have v2 : w2.cell? ⟨w.heap.size, 2, none⟩ = some (.string ⟨#[]⟩) := by rw [k2, c1]; simp
  obtain ⟨g0, g1, g2⟩ := q_three_set v0 v1 v2 (.int .u8 15) (.int .u64 b) (.string E0)
  refine bodyPost_ret (v := .tuple #[V 15 b E0, .bool true]) (by simp [results, Tryd.results4, go_sem, g0, g1, g2, World.cell?_alloc_some]) rfl ⟨rfl, ?_⟩
  go_grown
set_option maxRecDepth 100000 in
set_option maxHeartbeats 2000000 in
theorem PcN_15 (n : Int) (R : ∀ w1, Below w.heap.size w w1 → Calls Tryd.prog 7 #[.string s] w1 fun e w' => e = .returned (.tuple #[.int .i64 n, .bool false]) ∧ Below w1.heap.size w1 w') : Calls Tryd.prog 4 #[.int .u8 15, .string s] w fun e w' => e = .returned (.tuple #[V 0 0 E0, .bool false]) ∧ Below w.heap.size w w' := by
  have RR : Hid _ := R
  clear R
  go_enter Tryd.func4, Tryd.ntmps4
  go_wp2_with fail
  refine (RR.out _ ((Below.refl _ _).alloc (Nat.le_refl _) _)).mono ?_
  rintro e w1 ⟨rfl, hb⟩
  obtain ⟨c1, f1, z1, B1⟩ := bb1q hb
  clear hb
  go_wp2
  have v0 : w1.cell? ⟨w.heap.size, 0, none⟩ = some (.int .u8 0) := by rw [c1]; simp
  have v1 : w1.cell? ⟨w.heap.size, 1, none⟩ = some (.int .u64 0) := by rw [c1]; simp
  have v2 : w1.cell? ⟨w.heap.size, 2, none⟩ = some (.string ⟨#[]⟩) := by rw [c1]; simp
  refine bodyPost_ret (v := .tuple #[V 0 0 E0, .bool false]) (by simp [results, Tryd.results4, go_sem, v0, v1, v2]) rfl ⟨rfl, ?_⟩
  go_grown
set_option maxRecDepth 100000 in
set_option maxHeartbeats 2000000 in
theorem PcY_16 (n : Int) (n0 : -9223372036854775808 ≤ n) (n1 : n < 9223372036854775808) (hf : fitOk 16 n = true) (R : ∀ w1, Below w.heap.size w w1 → Calls Tryd.prog 8 #[.string s] w1 fun e w' => e = .returned (.tuple #[.int .i64 n, .bool true]) ∧ Below w1.heap.size w1 w') : Calls Tryd.prog 4 #[.int .u8 16, .string s] w fun e w' => e = .returned (.tuple #[V 16 (n % 18446744073709551616) E0, .bool true]) ∧ Below w.heap.size w w' := by
  have RR : Hid _ := R
  have I : Hid (∀ w, Calls Tryd.prog 10 #[.int .u8 16, .int .i64 n] w fun e w' => e = .returned (.tuple #[V 16 (n % 18446744073709551616) E0, .int .i64 0]) ∧ Below w.heap.size w w') := fun w => by
    have := Int_of 16 n w (by omega) ⟨n0, n1⟩
    rwa [intR, if_pos (by omega), if_pos hf] at this
  generalize n % 18446744073709551616 = b at *
  clear R hf
  go_enter Tryd.func4, Tryd.ntmps4
  go_wp2_with fail
  refine (RR.out _ ((Below.refl _ _).alloc (Nat.le_refl _) _)).mono ?_
  rintro e w1 ⟨rfl, hb⟩
  obtain ⟨c1, f1, z1, B1⟩ := bb1q hb
  clear hb
  go_wp2_with fail
  refine (I.out _).mono ?_
  rintro e w2 ⟨rfl, hb2⟩
  have k2 := (fun o => hb2.cell (p := ⟨w.heap.size, o, none⟩) z1)
  have j2 := (fun o => hb2.frozen (p := ⟨w.heap.size, o, none⟩) z1)
  have z2 := Nat.lt_of_lt_of_le z1 hb2.size
  have B2 := B1.trans (hb2.mono (Nat.le_of_lt z1))
  clear hb2
  go_wp2
  have v0 : w2.cell? ⟨w.heap.size, 0, none⟩ = some (.int .u8 0) := by rw [k2, c1]; simp
  have v1 : w2.cell? ⟨w.heap.size, 1, none⟩ = some (.int .u64 0) := by rw [k2, c1]; simp
  have v2 : w2.cell? ⟨w.heap.size, 2, none⟩ = some (.string ⟨#[]⟩) := by rw [k2, c1]; simp
  obtain ⟨g0, g1, g2⟩ := q_three_set v0 v1 v2 (.int .u8 16) (.int .u64 b) (.string E0)
  refine bodyPost_ret (v := .tuple #[V 16 b E0, .bool true]) (by simp [results, Tryd.results4, go_sem, g0, g1, g2, World.cell?_alloc_some]) rfl ⟨rfl, ?_⟩
  go_grown
set_option maxRecDepth 100000 in
set_option maxHeartbeats 2000000 in
theorem PcN_16 (n : Int) (R : ∀ w1, Below w.heap.size w w1 → Calls Tryd.prog 8 #[.string s] w1 fun e w' => e = .returned (.tuple #[.int .i64 n, .bool false]) ∧ Below w1.heap.size w1 w') : Calls Tryd.prog 4 #[.int .u8 16, .string s] w fun e w' => e = .returned (.tuple #[V 0 0 E0, .bool false]) ∧ Below w.heap.size w w' := by
  have RR : Hid _ := R
  clear R
  go_enter Tryd.func4, Tryd.ntmps4
  go_wp2_with fail
  refine (RR.out _ ((Below.refl _ _).alloc (Nat.le_refl _) _)).mono ?_
  rintro e w1 ⟨rfl, hb⟩
  obtain ⟨c1, f1, z1, B1⟩ := bb1q hb
  clear hb
  go_wp2
  have v0 : w1.cell? ⟨w.heap.size, 0, none⟩ = some (.int .u8 0) := by rw [c1]; simp
  have v1 : w1.cell? ⟨w.heap.size, 1, none⟩ = some (.int .u64 0) := by rw [c1]; simp
  have v2 : w1.cell? ⟨w.heap.size, 2, none⟩ = some (.string ⟨#[]⟩) := by rw [c1]; simp
  refine bodyPost_ret (v := .tuple #[V 0 0 E0, .bool false]) (by simp [results, Tryd.results4, go_sem, v0, v1, v2]) rfl ⟨rfl, ?_⟩
  go_grown
set_option maxRecDepth 100000 in
set_option maxHeartbeats 2000000 in
theorem PcY_17 (n : Int) (n0 : -9223372036854775808 ≤ n) (n1 : n < 9223372036854775808) (hf : fitOk 17 n = true) (R : ∀ w1, Below w.heap.size w w1 → Calls Tryd.prog 9 #[.string s] w1 fun e w' => e = .returned (.tuple #[.int .i64 n, .bool true]) ∧ Below w1.heap.size w1 w') : Calls Tryd.prog 4 #[.int .u8 17, .string s] w fun e w' => e = .returned (.tuple #[V 17 (n % 18446744073709551616) E0, .bool true]) ∧ Below w.heap.size w w' := by
  have RR : Hid _ := R
  have I : Hid (∀ w, Calls Tryd.prog 10 #[.int .u8 17, .int .i64 n] w fun e w' => e = .returned (.tuple #[V 17 (n % 18446744073709551616) E0, .int .i64 0]) ∧ Below w.heap.size w w') := fun w => by
    have := Int_of 17 n w (by omega) ⟨n0, n1⟩
    rwa [intR, if_pos (by omega), if_pos hf] at this
  generalize n % 18446744073709551616 = b at *
  clear R hf
  go_enter Tryd.func4, Tryd.ntmps4
  go_wp2_with fail
  refine (RR.out _ ((Below.refl _ _).alloc (Nat.le_refl _) _)).mono ?_
  rintro e w1 ⟨rfl, hb⟩
  obtain ⟨c1, f1, z1, B1⟩ := bb1q hb
  clear hb
  go_wp2_with fail
  refine (I.out _).mono ?_
  rintro e w2 ⟨rfl, hb2⟩
  have k2 := (fun o => hb2.cell (p := ⟨w.heap.size, o, none⟩) z1)
  have j2 := (fun o => hb2.frozen (p := ⟨w.heap.size, o, none⟩) z1)
  have z2 := Nat.lt_of_lt_of_le z1 hb2.size
  have B2 := B1.trans (hb2.mono (Nat.le_of_lt z1))
  clear hb2
  go_wp2
  have v0 : w2.cell? ⟨w.heap.size, 0, none⟩ = some (.int .u8 0) := by rw [k2, c1]; simp
  have v1 : w2.cell? ⟨w.heap.size, 1, none⟩ = some (.int .u64 0) := by rw [k2, c1]; simp
  have v2 : w2.cell? ⟨w.heap.size, 2, none⟩ = some (.string ⟨#[]⟩) := by rw [k2, c1]; simp
  obtain ⟨g0, g1, g2⟩ := q_three_set v0 v1 v2 (.int .u8 17) (.int .u64 b) (.string E0)
  refine bodyPost_ret (v := .tuple #[V 17 b E0, .bool true]) (by simp [results, Tryd.results4, go_sem, g0, g1, g2, World.cell?_alloc_some]) rfl ⟨rfl, ?_⟩
  go_grown
set_option maxRecDepth 100000 in
set_option maxHeartbeats 2000000 in
theorem PcN_17 (n : Int) (R : ∀ w1, Below w.heap.size w w1 → Calls Tryd.prog 9 #[.string s] w1 fun e w' => e = .returned (.tuple #[.int .i64 n, .bool false]) ∧ Below w1.heap.size w1 w') : Calls Tryd.prog 4 #[.int .u8 17, .string s] w fun e w' => e = .returned (.tuple #[V 0 0 E0, .bool false]) ∧ Below w.heap.size w w' := by
  have RR : Hid _ := R
  clear R
  go_enter Tryd.func4, Tryd.ntmps4
  go_wp2_with fail
  refine (RR.out _ ((Below.refl _ _).alloc (Nat.le_refl _) _)).mono ?_
  rintro e w1 ⟨rfl, hb⟩
  obtain ⟨c1, f1, z1, B1⟩ := bb1q hb
  clear hb
  go_wp2
  have v0 : w1.cell? ⟨w.heap.size, 0, none⟩ = some (.int .u8 0) := by rw [c1]; simp
  have v1 : w1.cell? ⟨w.heap.size, 1, none⟩ = some (.int .u64 0) := by rw [c1]; simp
  have v2 : w1.cell? ⟨w.heap.size, 2, none⟩ = some (.string ⟨#[]⟩) := by rw [c1]; simp
  refine bodyPost_ret (v := .tuple #[V 0 0 E0, .bool false]) (by simp [results, Tryd.results4, go_sem, v0, v1, v2]) rfl ⟨rfl, ?_⟩
  go_grown
end
end Go.Proofs.YtpdnlojennhmpaaDoor
