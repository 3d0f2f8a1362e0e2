/- What the document's Parse answers where its readers are known; no statement of the seat is proved here. -/
import Derived.Test.YtpdnlojennhmpaaDoorPqI
import Derived.Test.YtpdnlojennhmpaaDoorPqH
import Derived.Test.YtpdnlojennhmpaaDoorPqW
import Derived.Test.YtpdnlojennhmpaaDoorMade
namespace Go.Proofs.YtpdnlojennhmpaaDoor
set_option linter.unusedVariables false
open Go.RowKit
section
variable (s : ByteArray) (w : World)
set_option maxRecDepth 100000 in
set_option maxHeartbeats 2000000 in
theorem PrX_ (k : Int) (hk : 0 ≤ k ∧ k < 256) (h : ¬ (14 ≤ k ∧ k ≤ 17)) : Calls Tryd.prog 5 #[.int .u8 k, .string s] w fun e w' => e = .returned (.tuple #[V 0 0 E0, .bool false]) ∧ Below w.heap.size w w' := by
  have k14 : (k == 14) = false := by simp; omega
  have k15 : (k == 15) = false := by simp; omega
  have k16 : (k == 16) = false := by simp; omega
  have k17 : (k == 17) = false := by simp; omega
  go_enter Tryd.func5, Tryd.ntmps5
  go_wp2
  exact bodyPost_ret (v := .tuple #[V 0 0 E0, .bool false]) (by simp [results, Tryd.results5, go_sem]) rfl ⟨rfl, (Below.refl _ _).alloc (Nat.le_refl _) _⟩
set_option maxRecDepth 100000 in
set_option maxHeartbeats 2000000 in
theorem PrY_15 (n : Int) (n0 : 0 ≤ n) (n1 : n < 9223372036854775808) (R : ∀ w1, Calls Tryd.prog 12 #[.string s] w1 fun e w' => e = .returned (.tuple #[.int .i64 n, .bool true]) ∧ Below w1.heap.size w1 w') : Calls Tryd.prog 5 #[.int .u8 15, .string s] w fun e w' => e = .returned (.tuple #[V 15 n E0, .bool true]) ∧ Below w.heap.size w w' := by
  have RR : Hid _ := R
  have wn : IntKind.u64.wrap n = n := by rw [IntKind.wrap_u64]; omega
  clear R
  go_enter Tryd.func5, Tryd.ntmps5
  go_wp2_with fail
  refine (RR.out _).mono ?_
  rintro e w1 ⟨rfl, hb⟩
  obtain ⟨c1, f1, z1, B1⟩ := bb1q hb
  clear hb
  go_wp2
  have v0 : w1.cell? ⟨w.heap.size, 0, none⟩ = some (.int .u8 0) := by rw [c1]; simp
  have v1 : w1.cell? ⟨w.heap.size, 1, none⟩ = some (.int .u64 0) := by rw [c1]; simp
  have v2 : w1.cell? ⟨w.heap.size, 2, none⟩ = some (.string ⟨#[]⟩) := by rw [c1]; simp
  obtain ⟨g0, g1, g2⟩ := q_three_set v0 v1 v2 (.int .u8 15) (.int .u64 n) (.string E0)
  refine bodyPost_ret (v := .tuple #[V 15 n E0, .bool true]) (by simp [results, Tryd.results5, go_sem, g0, g1, g2]) rfl ⟨rfl, ?_⟩
  go_grown
set_option maxRecDepth 100000 in
set_option maxHeartbeats 2000000 in
theorem PrN_15 (n : Int) (R : ∀ w1, Calls Tryd.prog 12 #[.string s] w1 fun e w' => e = .returned (.tuple #[.int .i64 n, .bool false]) ∧ Below w1.heap.size w1 w') : Calls Tryd.prog 5 #[.int .u8 15, .string s] w fun e w' => e = .returned (.tuple #[V 0 0 E0, .bool false]) ∧ Below w.heap.size w w' := by
  have RR : Hid _ := R
  clear R
  go_enter Tryd.func5, Tryd.ntmps5
  go_wp2_with fail
  refine (RR.out _).mono ?_
  rintro e w1 ⟨rfl, hb⟩
  obtain ⟨c1, f1, z1, B1⟩ := bb1q hb
  clear hb
  go_wp2
  have v0 : w1.cell? ⟨w.heap.size, 0, none⟩ = some (.int .u8 0) := by rw [c1]; simp
  have v1 : w1.cell? ⟨w.heap.size, 1, none⟩ = some (.int .u64 0) := by rw [c1]; simp
  have v2 : w1.cell? ⟨w.heap.size, 2, none⟩ = some (.string ⟨#[]⟩) := by rw [c1]; simp
  refine bodyPost_ret (v := .tuple #[V 0 0 E0, .bool false]) (by simp [results, Tryd.results5, go_sem, v0, v1, v2]) rfl ⟨rfl, ?_⟩
  go_grown
set_option maxRecDepth 100000 in
set_option maxHeartbeats 2000000 in
theorem PrY_16 (n : Int) (n0 : 0 ≤ n) (n1 : n < 9223372036854775808) (R : ∀ w1, Calls Tryd.prog 13 #[.string s] w1 fun e w' => e = .returned (.tuple #[.int .i64 n, .bool true]) ∧ Below w1.heap.size w1 w') : Calls Tryd.prog 5 #[.int .u8 16, .string s] w fun e w' => e = .returned (.tuple #[V 16 n E0, .bool true]) ∧ Below w.heap.size w w' := by
  have RR : Hid _ := R
  have wn : IntKind.u64.wrap n = n := by rw [IntKind.wrap_u64]; omega
  clear R
  go_enter Tryd.func5, Tryd.ntmps5
  go_wp2_with fail
  refine (RR.out _).mono ?_
  rintro e w1 ⟨rfl, hb⟩
  obtain ⟨c1, f1, z1, B1⟩ := bb1q hb
  clear hb
  go_wp2
  have v0 : w1.cell? ⟨w.heap.size, 0, none⟩ = some (.int .u8 0) := by rw [c1]; simp
  have v1 : w1.cell? ⟨w.heap.size, 1, none⟩ = some (.int .u64 0) := by rw [c1]; simp
  have v2 : w1.cell? ⟨w.heap.size, 2, none⟩ = some (.string ⟨#[]⟩) := by rw [c1]; simp
  obtain ⟨g0, g1, g2⟩ := q_three_set v0 v1 v2 (.int .u8 16) (.int .u64 n) (.string E0)
  refine bodyPost_ret (v := .tuple #[V 16 n E0, .bool true]) (by simp [results, Tryd.results5, go_sem, g0, g1, g2]) rfl ⟨rfl, ?_⟩
  go_grown
set_option maxRecDepth 100000 in
set_option maxHeartbeats 2000000 in
theorem PrN_16 (n : Int) (R : ∀ w1, Calls Tryd.prog 13 #[.string s] w1 fun e w' => e = .returned (.tuple #[.int .i64 n, .bool false]) ∧ Below w1.heap.size w1 w') : Calls Tryd.prog 5 #[.int .u8 16, .string s] w fun e w' => e = .returned (.tuple #[V 0 0 E0, .bool false]) ∧ Below w.heap.size w w' := by
  have RR : Hid _ := R
  clear R
  go_enter Tryd.func5, Tryd.ntmps5
  go_wp2_with fail
  refine (RR.out _).mono ?_
  rintro e w1 ⟨rfl, hb⟩
  obtain ⟨c1, f1, z1, B1⟩ := bb1q hb
  clear hb
  go_wp2
  have v0 : w1.cell? ⟨w.heap.size, 0, none⟩ = some (.int .u8 0) := by rw [c1]; simp
  have v1 : w1.cell? ⟨w.heap.size, 1, none⟩ = some (.int .u64 0) := by rw [c1]; simp
  have v2 : w1.cell? ⟨w.heap.size, 2, none⟩ = some (.string ⟨#[]⟩) := by rw [c1]; simp
  refine bodyPost_ret (v := .tuple #[V 0 0 E0, .bool false]) (by simp [results, Tryd.results5, go_sem, v0, v1, v2]) rfl ⟨rfl, ?_⟩
  go_grown
set_option maxRecDepth 100000 in
set_option maxHeartbeats 2000000 in
theorem PrY_14n (n : Nat) (n1 : n ≤ 9223372036854775807) (h : preB 45 s = true) (r : ByteArray) (er : s.extract 1 s.size = r) (R : ∀ w1, Calls Tryd.prog 11 #[.string r] w1 fun e w' => e = .returned (.tuple #[.int .i64 (n : Int), .bool true]) ∧ Below w1.heap.size w1 w') : Calls Tryd.prog 5 #[.int .u8 14, .string s] w fun e w' => e = .returned (.tuple #[V 14 ((-(n : Int)) % 18446744073709551616) E0, .bool true]) ∧ Below w.heap.size w w' := by
  have RR : Hid _ := R
  have ER : Hid (s.extract 1 s.size = r) := er
  have wn : IntKind.u64.wrap (-(n : Int)) = (-(n : Int)) % 18446744073709551616 := by rw [IntKind.wrap_u64]
  obtain ⟨s1, s2⟩ : ∃ h1 : 0 < s.size, (s[0].toNat : Int) = 45 := by
    rw [preB_head] at h
    have sl : s.data.toList.length = s.size := by simp
    have h1 : 0 < s.size := by
      rw [← sl]
      cases g : s.data.toList with
      | nil => rw [g] at h; cases h
      | cons a l => simp
    refine ⟨h1, ?_⟩
    have e : s.data.toList.head? = some s[0] := by
      rw [List.head?_eq_getElem?, List.getElem?_eq_getElem (by omega)]
      rfl
    rw [e] at h
    have : s[0] = 45 := by simpa using h
    rw [this]
    rfl
  have s1' : (0 : Int) < s.size := by omega
  generalize hb' : (-(n : Int)) % 18446744073709551616 = b at *
  clear R er h hb'
  go_enter Tryd.func5, Tryd.ntmps5
  go_wp2_with fail
  rw [ER.out]
  refine (RR.out _).mono ?_
  rintro e w1 ⟨rfl, hb⟩
  obtain ⟨c1, f1, z1, B1⟩ := bb1q hb
  clear hb
  go_wp2
  have v0 : w1.cell? ⟨w.heap.size, 0, none⟩ = some (.int .u8 0) := by rw [c1]; simp
  have v1 : w1.cell? ⟨w.heap.size, 1, none⟩ = some (.int .u64 0) := by rw [c1]; simp
  have v2 : w1.cell? ⟨w.heap.size, 2, none⟩ = some (.string ⟨#[]⟩) := by rw [c1]; simp
  obtain ⟨g0, g1, g2⟩ := q_three_set v0 v1 v2 (.int .u8 14) (.int .u64 b) (.string E0)
  refine bodyPost_ret (v := .tuple #[V 14 b E0, .bool true]) (by simp [results, Tryd.results5, go_sem, g0, g1, g2]) rfl ⟨rfl, ?_⟩
  go_grown
set_option maxRecDepth 100000 in
set_option maxHeartbeats 2000000 in
theorem PrN_14n (h : preB 45 s = true) (r : ByteArray) (er : s.extract 1 s.size = r) (R : ∀ w1, Calls Tryd.prog 11 #[.string r] w1 fun e w' => e = .returned (.tuple #[.int .i64 0, .bool false]) ∧ Below w1.heap.size w1 w') : Calls Tryd.prog 5 #[.int .u8 14, .string s] w fun e w' => e = .returned (.tuple #[V 0 0 E0, .bool false]) ∧ Below w.heap.size w w' := by
  have RR : Hid _ := R
  have ER : Hid (s.extract 1 s.size = r) := er
  obtain ⟨s1, s2⟩ : ∃ h1 : 0 < s.size, (s[0].toNat : Int) = 45 := by
    rw [preB_head] at h
    have sl : s.data.toList.length = s.size := by simp
    have h1 : 0 < s.size := by
      rw [← sl]
      cases g : s.data.toList with
      | nil => rw [g] at h; cases h
      | cons a l => simp
    refine ⟨h1, ?_⟩
    have e : s.data.toList.head? = some s[0] := by
      rw [List.head?_eq_getElem?, List.getElem?_eq_getElem (by omega)]
      rfl
    rw [e] at h
    have : s[0] = 45 := by simpa using h
    rw [this]
    rfl
  have s1' : (0 : Int) < s.size := by omega
  clear R er h
  go_enter Tryd.func5, Tryd.ntmps5
  go_wp2_with fail
  rw [ER.out]
  refine (RR.out _).mono ?_
  rintro e w1 ⟨rfl, hb⟩
  obtain ⟨c1, f1, z1, B1⟩ := bb1q hb
  clear hb
  go_wp2
  have v0 : w1.cell? ⟨w.heap.size, 0, none⟩ = some (.int .u8 0) := by rw [c1]; simp
  have v1 : w1.cell? ⟨w.heap.size, 1, none⟩ = some (.int .u64 0) := by rw [c1]; simp
  have v2 : w1.cell? ⟨w.heap.size, 2, none⟩ = some (.string ⟨#[]⟩) := by rw [c1]; simp
  refine bodyPost_ret (v := .tuple #[V 0 0 E0, .bool false]) (by simp [results, Tryd.results5, go_sem, v0, v1, v2]) rfl ⟨rfl, ?_⟩
  go_grown
set_option maxRecDepth 100000 in
set_option maxHeartbeats 2000000 in
theorem PrY_14p (n : Nat) (n1 : n ≤ 9223372036854775807) (h : preB 45 s = false) (R : ∀ w1, Calls Tryd.prog 11 #[.string s] w1 fun e w' => e = .returned (.tuple #[.int .i64 (n : Int), .bool true]) ∧ Below w1.heap.size w1 w') : Calls Tryd.prog 5 #[.int .u8 14, .string s] w fun e w' => e = .returned (.tuple #[V 14 (n : Int) E0, .bool true]) ∧ Below w.heap.size w w' := by
  have RR : Hid _ := R
  have wn : IntKind.u64.wrap (n : Int) = (n : Int) := by rw [IntKind.wrap_u64]; omega
  have way : s.size = 0 ∨ ∃ h1 : 0 < s.size, ¬ (s[0].toNat : Int) = 45 := by
    by_cases h1 : 0 < s.size
    · right
      refine ⟨h1, fun g => ?_⟩
      rw [preB_head, List.head?_eq_getElem?, List.getElem?_eq_getElem (by simpa using h1)] at h
      have e : s.data.toList[0]'(by simpa using h1) = s[0] := rfl
      rw [e] at h
      have g2 : s[0] = 45 := UInt8.toNat_inj.mp (by show s[0].toNat = 45; omega)
      rw [g2] at h
      cases h
    · left; omega
  clear R h
  rcases way with s0 | ⟨s1, s2⟩
  · have s0' : ¬ (0 : Int) < s.size := by omega
    go_enter Tryd.func5, Tryd.ntmps5
    go_wp2_with fail
    refine (RR.out _).mono ?_
    rintro e w1 ⟨rfl, hb⟩
    obtain ⟨c1, f1, z1, B1⟩ := bb1q hb
    clear hb
    go_wp2
    have v0 : w1.cell? ⟨w.heap.size, 0, none⟩ = some (.int .u8 0) := by rw [c1]; simp
    have v1 : w1.cell? ⟨w.heap.size, 1, none⟩ = some (.int .u64 0) := by rw [c1]; simp
    have v2 : w1.cell? ⟨w.heap.size, 2, none⟩ = some (.string ⟨#[]⟩) := by rw [c1]; simp
    obtain ⟨g0, g1, g2⟩ := q_three_set v0 v1 v2 (.int .u8 14) (.int .u64 (n : Int)) (.string E0)
    refine bodyPost_ret (v := .tuple #[V 14 (n : Int) E0, .bool true]) (by simp [results, Tryd.results5, go_sem, g0, g1, g2]) rfl ⟨rfl, ?_⟩
    go_grown
  · have s1' : (0 : Int) < s.size := by omega
    have s2' : ((s[0].toNat : Int) == 45) = false := by simpa using s2
    go_enter Tryd.func5, Tryd.ntmps5
    go_wp2_with fail
    refine (RR.out _).mono ?_
    rintro e w1 ⟨rfl, hb⟩
    obtain ⟨c1, f1, z1, B1⟩ := bb1q hb
    clear hb
    go_wp2
    have v0 : w1.cell? ⟨w.heap.size, 0, none⟩ = some (.int .u8 0) := by rw [c1]; simp
    have v1 : w1.cell? ⟨w.heap.size, 1, none⟩ = some (.int .u64 0) := by rw [c1]; simp
    have v2 : w1.cell? ⟨w.heap.size, 2, none⟩ = some (.string ⟨#[]⟩) := by rw [c1]; simp
    obtain ⟨g0, g1, g2⟩ := q_three_set v0 v1 v2 (.int .u8 14) (.int .u64 (n : Int)) (.string E0)
    refine bodyPost_ret (v := .tuple #[V 14 (n : Int) E0, .bool true]) (by simp [results, Tryd.results5, go_sem, g0, g1, g2]) rfl ⟨rfl, ?_⟩
    go_grown
set_option maxRecDepth 100000 in
set_option maxHeartbeats 2000000 in
theorem PrN_14p (h : preB 45 s = false) (R : ∀ w1, Calls Tryd.prog 11 #[.string s] w1 fun e w' => e = .returned (.tuple #[.int .i64 0, .bool false]) ∧ Below w1.heap.size w1 w') : Calls Tryd.prog 5 #[.int .u8 14, .string s] w fun e w' => e = .returned (.tuple #[V 0 0 E0, .bool false]) ∧ Below w.heap.size w w' := by
  have RR : Hid _ := R
  have way : s.size = 0 ∨ ∃ h1 : 0 < s.size, ¬ (s[0].toNat : Int) = 45 := by
    by_cases h1 : 0 < s.size
    · right
      refine ⟨h1, fun g => ?_⟩
      rw [preB_head, List.head?_eq_getElem?, List.getElem?_eq_getElem (by simpa using h1)] at h
      have e : s.data.toList[0]'(by simpa using h1) = s[0] := rfl
      rw [e] at h
      have g2 : s[0] = 45 := UInt8.toNat_inj.mp (by show s[0].toNat = 45; omega)
      rw [g2] at h
      cases h
    · left; omega
  clear R h
  rcases way with s0 | ⟨s1, s2⟩
  · have s0' : ¬ (0 : Int) < s.size := by omega
    go_enter Tryd.func5, Tryd.ntmps5
    go_wp2_with fail
    refine (RR.out _).mono ?_
    rintro e w1 ⟨rfl, hb⟩
    obtain ⟨c1, f1, z1, B1⟩ := bb1q hb
    clear hb
    go_wp2
    have v0 : w1.cell? ⟨w.heap.size, 0, none⟩ = some (.int .u8 0) := by rw [c1]; simp
    have v1 : w1.cell? ⟨w.heap.size, 1, none⟩ = some (.int .u64 0) := by rw [c1]; simp
    have v2 : w1.cell? ⟨w.heap.size, 2, none⟩ = some (.string ⟨#[]⟩) := by rw [c1]; simp
    refine bodyPost_ret (v := .tuple #[V 0 0 E0, .bool false]) (by simp [results, Tryd.results5, go_sem, v0, v1, v2]) rfl ⟨rfl, ?_⟩
    go_grown
  · have s1' : (0 : Int) < s.size := by omega
    have s2' : ((s[0].toNat : Int) == 45) = false := by simpa using s2
    go_enter Tryd.func5, Tryd.ntmps5
    go_wp2_with fail
    refine (RR.out _).mono ?_
    rintro e w1 ⟨rfl, hb⟩
    obtain ⟨c1, f1, z1, B1⟩ := bb1q hb
    clear hb
    go_wp2
    have v0 : w1.cell? ⟨w.heap.size, 0, none⟩ = some (.int .u8 0) := by rw [c1]; simp
    have v1 : w1.cell? ⟨w.heap.size, 1, none⟩ = some (.int .u64 0) := by rw [c1]; simp
    have v2 : w1.cell? ⟨w.heap.size, 2, none⟩ = some (.string ⟨#[]⟩) := by rw [c1]; simp
    refine bodyPost_ret (v := .tuple #[V 0 0 E0, .bool false]) (by simp [results, Tryd.results5, go_sem, v0, v1, v2]) rfl ⟨rfl, ?_⟩
    go_grown
set_option maxRecDepth 100000 in
set_option maxHeartbeats 2000000 in
theorem PrN_17a (h : s.size ≤ 11 ∨ ∃ h1 : 10 < s.size, ¬ (s[10].toNat : Int) = 45) : Calls Tryd.prog 5 #[.int .u8 17, .string s] w fun e w' => e = .returned (.tuple #[V 0 0 E0, .bool false]) ∧ Below w.heap.size w w' := by
  rcases h with s0 | ⟨s1, s2⟩
  · have s0' : ¬ (11 : Int) < s.size := by omega
    go_enter Tryd.func5, Tryd.ntmps5
    go_wp2
    exact bodyPost_ret (v := .tuple #[V 0 0 E0, .bool false]) (by simp [results, Tryd.results5, go_sem]) rfl ⟨rfl, (Below.refl _ _).alloc (Nat.le_refl _) _⟩
  · have s2' : ((s[10].toNat : Int) == 45) = false := by simpa using s2
    by_cases s3 : (11 : Int) < s.size
    · go_enter Tryd.func5, Tryd.ntmps5
      go_wp2
      exact bodyPost_ret (v := .tuple #[V 0 0 E0, .bool false]) (by simp [results, Tryd.results5, go_sem]) rfl ⟨rfl, (Below.refl _ _).alloc (Nat.le_refl _) _⟩
    · go_enter Tryd.func5, Tryd.ntmps5
      go_wp2
      exact bodyPost_ret (v := .tuple #[V 0 0 E0, .bool false]) (by simp [results, Tryd.results5, go_sem]) rfl ⟨rfl, (Below.refl _ _).alloc (Nat.le_refl _) _⟩
set_option maxRecDepth 100000 in
set_option maxHeartbeats 2000000 in
theorem PrB_17 (a b : ByteArray) (d c : Int) (p q : Bool) (h1 : 11 < s.size) (h2 : (s[10].toNat : Int) = 45) (ea : s.extract 0 10 = a) (eb : s.extract 11 s.size = b) (db : 0 ≤ d ∧ d ≤ 7258118400000000000) (cb : 0 ≤ c ∧ c ≤ 400000000000000) (hD : ∀ w1, Calls Tryd.prog 12 #[.string a] w1 fun e w' => e = .returned (.tuple #[.int .i64 d, .bool p]) ∧ Below w1.heap.size w1 w') (hC : ∀ w1, Calls Tryd.prog 13 #[.string b] w1 fun e w' => e = .returned (.tuple #[.int .i64 c, .bool q]) ∧ Below w1.heap.size w1 w') :
    Calls Tryd.prog 5 #[.int .u8 17, .string s] w fun e w' => e = .returned (if (p && q) = true then .tuple #[V 17 (d + c) E0, .bool true] else .tuple #[V 0 0 E0, .bool false]) ∧ Below w.heap.size w w' := by
  have DD : Hid _ := hD
  have CC : Hid _ := hC
  have EA : Hid (s.extract 0 10 = a) := ea
  have EB : Hid (s.extract 11 s.size = b) := eb
  have h1' : (11 : Int) < s.size := by omega
  have wn : IntKind.u64.wrap (d + c) = d + c := by rw [IntKind.wrap_u64]; omega
  clear hD hC ea eb
  cases p
  · rw [if_neg (by simp)]
    go_enter Tryd.func5, Tryd.ntmps5
    go_wp2_with fail
    rw [EA.out]
    refine (DD.out _).mono ?_
    rintro e w1 ⟨rfl, hb⟩
    obtain ⟨c1, f1, z1, B1⟩ := bb1q hb
    clear hb
    go_wp2_with fail
    rw [EB.out]
    refine (CC.out _).mono ?_
    rintro e w2 ⟨rfl, hb2⟩
    have k2 := (fun o => hb2.cell (p := ⟨w.heap.size, o, none⟩) z1)
    have j2 := (fun o => hb2.frozen (p := ⟨w.heap.size, o, none⟩) z1)
    have z2 := Nat.lt_of_lt_of_le z1 hb2.size
    have B2 := B1.trans (hb2.mono (Nat.le_of_lt z1))
    clear hb2
    go_wp2
    have v0 : w2.cell? ⟨w.heap.size, 0, none⟩ = some (.int .u8 0) := by rw [k2, c1]; simp
    have v1 : w2.cell? ⟨w.heap.size, 1, none⟩ = some (.int .u64 0) := by rw [k2, c1]; simp
    have v2 : w2.cell? ⟨w.heap.size, 2, none⟩ = some (.string ⟨#[]⟩) := by rw [k2, c1]; simp
    refine bodyPost_ret (v := .tuple #[V 0 0 E0, .bool false]) (by simp [results, Tryd.results5, go_sem, v0, v1, v2]) rfl ⟨rfl, ?_⟩
    go_grown
  · cases q
    · rw [if_neg (by simp)]
      go_enter Tryd.func5, Tryd.ntmps5
      go_wp2_with fail
      rw [EA.out]
      refine (DD.out _).mono ?_
      rintro e w1 ⟨rfl, hb⟩
      obtain ⟨c1, f1, z1, B1⟩ := bb1q hb
      clear hb
      go_wp2_with fail
      rw [EB.out]
      refine (CC.out _).mono ?_
      rintro e w2 ⟨rfl, hb2⟩
      have k2 := (fun o => hb2.cell (p := ⟨w.heap.size, o, none⟩) z1)
      have j2 := (fun o => hb2.frozen (p := ⟨w.heap.size, o, none⟩) z1)
      have z2 := Nat.lt_of_lt_of_le z1 hb2.size
      have B2 := B1.trans (hb2.mono (Nat.le_of_lt z1))
      clear hb2
      go_wp2
      have v0 : w2.cell? ⟨w.heap.size, 0, none⟩ = some (.int .u8 0) := by rw [k2, c1]; simp
      have v1 : w2.cell? ⟨w.heap.size, 1, none⟩ = some (.int .u64 0) := by rw [k2, c1]; simp
      have v2 : w2.cell? ⟨w.heap.size, 2, none⟩ = some (.string ⟨#[]⟩) := by rw [k2, c1]; simp
      refine bodyPost_ret (v := .tuple #[V 0 0 E0, .bool false]) (by simp [results, Tryd.results5, go_sem, v0, v1, v2]) rfl ⟨rfl, ?_⟩
      go_grown
    · rw [if_pos (show (true && true) = true from rfl)]
      go_enter Tryd.func5, Tryd.ntmps5
      go_wp2_with fail
      rw [EA.out]
      refine (DD.out _).mono ?_
      rintro e w1 ⟨rfl, hb⟩
      obtain ⟨c1, f1, z1, B1⟩ := bb1q hb
      clear hb
      go_wp2_with fail
      rw [EB.out]
      refine (CC.out _).mono ?_
      rintro e w2 ⟨rfl, hb2⟩
      have k2 := (fun o => hb2.cell (p := ⟨w.heap.size, o, none⟩) z1)
      have j2 := (fun o => hb2.frozen (p := ⟨w.heap.size, o, none⟩) z1)
      have z2 := Nat.lt_of_lt_of_le z1 hb2.size
      have B2 := B1.trans (hb2.mono (Nat.le_of_lt z1))
      clear hb2
      go_wp2
      have v0 : w2.cell? ⟨w.heap.size, 0, none⟩ = some (.int .u8 0) := by rw [k2, c1]; simp
      have v1 : w2.cell? ⟨w.heap.size, 1, none⟩ = some (.int .u64 0) := by rw [k2, c1]; simp
      have v2 : w2.cell? ⟨w.heap.size, 2, none⟩ = some (.string ⟨#[]⟩) := by rw [k2, c1]; simp
      obtain ⟨g0, g1, g2⟩ := q_three_set v0 v1 v2 (.int .u8 17) (.int .u64 (d + c)) (.string E0)
      refine bodyPost_ret (v := .tuple #[V 17 (d + c) E0, .bool true]) (by simp [results, Tryd.results5, go_sem, g0, g1, g2]) rfl ⟨rfl, ?_⟩
      go_grown
end
end Go.Proofs.YtpdnlojennhmpaaDoor
