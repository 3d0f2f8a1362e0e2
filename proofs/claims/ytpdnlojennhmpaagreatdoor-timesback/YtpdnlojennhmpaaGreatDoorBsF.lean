/- What times.Parse answers of what times.Print tells; no statement of the seat is proved here. -/
import Derived.Test.YtpdnlojennhmpaaGreatDoorBsE
import Derived.Test.YtpdnlojennhmpaaGreatDoorIntV
import Derived.Test.YtpdnlojennhmpaaGreatDoorAwk4
namespace Go.Proofs.YtpdnlojennhmpaaGreatDoor
set_option linter.unusedVariables false
open Go.RowKit
section
variable (s : ByteArray) (w : World)
set_option maxRecDepth 100000 in
set_option maxHeartbeats 2000000 in
theorem ParseY_14 (n : Int) (n0 : -9223372036854775808 ≤ n) (n1 : n < 9223372036854775808) (hf : fitOk 14 n = true) (R : ∀ w1, Below w.heap.size w w1 → Calls Tryz.prog 16 #[.string s] w1 fun e w' => e = .returned (.tuple #[.int .i64 n, .bool true]) ∧ Below w1.heap.size w1 w') : Calls Tryz.prog 8 #[.int .u8 14, .string s] w fun e w' => e = .returned (.tuple #[V 14 (n % 18446744073709551616) E0, .bool true]) ∧ Below w.heap.size w w' := by
  have RR : Hid _ := R
  have I : Hid (∀ w, Calls Tryz.prog 20 #[.int .u8 14, .int .i64 n] w fun e w' => e = .returned (.tuple #[V 14 (n % 18446744073709551616) E0, .int .i64 0]) ∧ Below w.heap.size w w') := fun w => by
    have := Int_of 14 n w (by omega) ⟨n0, n1⟩
    rwa [intR, if_pos (by omega), if_pos hf] at this
  generalize n % 18446744073709551616 = b at *
  clear R hf
  go_enter Tryz.func8, Tryz.ntmps8
  go_wp2_with fail
  refine (RR.out _ ((Below.refl _ _).alloc (Nat.le_refl _) _)).mono ?_
  rintro e w1 ⟨rfl, hb⟩
  obtain ⟨c1, f1, z1, B1⟩ := bb1 hb
  clear hb
  go_wp2_with fail
  refine (I.out _).mono ?_
  rintro e w2 ⟨rfl, hb2⟩
  have k2 := (fun o => hb2.cell (p := ⟨w.heap.size, o, none⟩) z1)
  have j2 := (fun o => hb2.frozen (p := ⟨w.heap.size, o, none⟩) z1)
  have z2 := Nat.lt_of_lt_of_le z1 hb2.size
  have B2 := B1.trans (hb2.mono (Nat.le_of_lt z1))
  clear hb2
  go_wp2
  have v0 : w2.cell? ⟨w.heap.size, 0, none⟩ = some (.int .u8 0) := by rw [k2, c1]; simp
  have v1 : w2.cell? ⟨w.heap.size, 1, none⟩ = some (.int .u64 0) := by rw [k2, c1]; simp
  have v2 : w2.cell? ⟨w.heap.size, 2, none⟩ = some (.string ⟨#[]⟩) := by rw [k2, c1]; simp
  obtain ⟨g0, g1, g2⟩ := three_set v0 v1 v2 (.int .u8 14) (.int .u64 b) (.string E0)
  refine bodyPost_ret (v := .tuple #[V 14 b E0, .bool true]) (by simp [results, Tryz.results8, go_sem, g0, g1, g2, World.cell?_alloc_some]) rfl ⟨rfl, ?_⟩
  go_grown
set_option maxRecDepth 100000 in
set_option maxHeartbeats 2000000 in
theorem ParseY_15 (n : Int) (n0 : -9223372036854775808 ≤ n) (n1 : n < 9223372036854775808) (hf : fitOk 15 n = true) (R : ∀ w1, Below w.heap.size w w1 → Calls Tryz.prog 17 #[.string s] w1 fun e w' => e = .returned (.tuple #[.int .i64 n, .bool true]) ∧ Below w1.heap.size w1 w') : Calls Tryz.prog 8 #[.int .u8 15, .string s] w fun e w' => e = .returned (.tuple #[V 15 (n % 18446744073709551616) E0, .bool true]) ∧ Below w.heap.size w w' := by
  have RR : Hid _ := R
  have I : Hid (∀ w, Calls Tryz.prog 20 #[.int .u8 15, .int .i64 n] w fun e w' => e = .returned (.tuple #[V 15 (n % 18446744073709551616) E0, .int .i64 0]) ∧ Below w.heap.size w w') := fun w => by
    have := Int_of 15 n w (by omega) ⟨n0, n1⟩
    rwa [intR, if_pos (by omega), if_pos hf] at this
  generalize n % 18446744073709551616 = b at *
  clear R hf
  go_enter Tryz.func8, Tryz.ntmps8
  go_wp2_with fail
  refine (RR.out _ ((Below.refl _ _).alloc (Nat.le_refl _) _)).mono ?_
  rintro e w1 ⟨rfl, hb⟩
  obtain ⟨c1, f1, z1, B1⟩ := bb1 hb
  clear hb
  go_wp2_with fail
  refine (I.out _).mono ?_
  rintro e w2 ⟨rfl, hb2⟩
  have k2 := (fun o => hb2.cell (p := ⟨w.heap.size, o, none⟩) z1)
  have j2 := (fun o => hb2.frozen (p := ⟨w.heap.size, o, none⟩) z1)
  have z2 := Nat.lt_of_lt_of_le z1 hb2.size
  have B2 := B1.trans (hb2.mono (Nat.le_of_lt z1))
  clear hb2
  go_wp2
  have v0 : w2.cell? ⟨w.heap.size, 0, none⟩ = some (.int .u8 0) := by rw [k2, c1]; simp
  have v1 : w2.cell? ⟨w.heap.size, 1, none⟩ = some (.int .u64 0) := by rw [k2, c1]; simp
  have v2 : w2.cell? ⟨w.heap.size, 2, none⟩ = some (.string ⟨#[]⟩) := by rw [k2, c1]; simp
  obtain ⟨g0, g1, g2⟩ := three_set v0 v1 v2 (.int .u8 15) (.int .u64 b) (.string E0)
  refine bodyPost_ret (v := .tuple #[V 15 b E0, .bool true]) (by simp [results, Tryz.results8, go_sem, g0, g1, g2, World.cell?_alloc_some]) rfl ⟨rfl, ?_⟩
  go_grown
set_option maxRecDepth 100000 in
set_option maxHeartbeats 2000000 in
theorem ParseY_16 (n : Int) (n0 : -9223372036854775808 ≤ n) (n1 : n < 9223372036854775808) (hf : fitOk 16 n = true) (R : ∀ w1, Below w.heap.size w w1 → Calls Tryz.prog 18 #[.string s] w1 fun e w' => e = .returned (.tuple #[.int .i64 n, .bool true]) ∧ Below w1.heap.size w1 w') : Calls Tryz.prog 8 #[.int .u8 16, .string s] w fun e w' => e = .returned (.tuple #[V 16 (n % 18446744073709551616) E0, .bool true]) ∧ Below w.heap.size w w' := by
  have RR : Hid _ := R
  have I : Hid (∀ w, Calls Tryz.prog 20 #[.int .u8 16, .int .i64 n] w fun e w' => e = .returned (.tuple #[V 16 (n % 18446744073709551616) E0, .int .i64 0]) ∧ Below w.heap.size w w') := fun w => by
    have := Int_of 16 n w (by omega) ⟨n0, n1⟩
    rwa [intR, if_pos (by omega), if_pos hf] at this
  generalize n % 18446744073709551616 = b at *
  clear R hf
  go_enter Tryz.func8, Tryz.ntmps8
  go_wp2_with fail
  refine (RR.out _ ((Below.refl _ _).alloc (Nat.le_refl _) _)).mono ?_
  rintro e w1 ⟨rfl, hb⟩
  obtain ⟨c1, f1, z1, B1⟩ := bb1 hb
  clear hb
  go_wp2_with fail
  refine (I.out _).mono ?_
  rintro e w2 ⟨rfl, hb2⟩
  have k2 := (fun o => hb2.cell (p := ⟨w.heap.size, o, none⟩) z1)
  have j2 := (fun o => hb2.frozen (p := ⟨w.heap.size, o, none⟩) z1)
  have z2 := Nat.lt_of_lt_of_le z1 hb2.size
  have B2 := B1.trans (hb2.mono (Nat.le_of_lt z1))
  clear hb2
  go_wp2
  have v0 : w2.cell? ⟨w.heap.size, 0, none⟩ = some (.int .u8 0) := by rw [k2, c1]; simp
  have v1 : w2.cell? ⟨w.heap.size, 1, none⟩ = some (.int .u64 0) := by rw [k2, c1]; simp
  have v2 : w2.cell? ⟨w.heap.size, 2, none⟩ = some (.string ⟨#[]⟩) := by rw [k2, c1]; simp
  obtain ⟨g0, g1, g2⟩ := three_set v0 v1 v2 (.int .u8 16) (.int .u64 b) (.string E0)
  refine bodyPost_ret (v := .tuple #[V 16 b E0, .bool true]) (by simp [results, Tryz.results8, go_sem, g0, g1, g2, World.cell?_alloc_some]) rfl ⟨rfl, ?_⟩
  go_grown
set_option maxRecDepth 100000 in
set_option maxHeartbeats 2000000 in
theorem ParseY_17 (n : Int) (n0 : -9223372036854775808 ≤ n) (n1 : n < 9223372036854775808) (hf : fitOk 17 n = true) (R : ∀ w1, Below w.heap.size w w1 → Calls Tryz.prog 19 #[.string s] w1 fun e w' => e = .returned (.tuple #[.int .i64 n, .bool true]) ∧ Below w1.heap.size w1 w') : Calls Tryz.prog 8 #[.int .u8 17, .string s] w fun e w' => e = .returned (.tuple #[V 17 (n % 18446744073709551616) E0, .bool true]) ∧ Below w.heap.size w w' := by
  have RR : Hid _ := R
  have I : Hid (∀ w, Calls Tryz.prog 20 #[.int .u8 17, .int .i64 n] w fun e w' => e = .returned (.tuple #[V 17 (n % 18446744073709551616) E0, .int .i64 0]) ∧ Below w.heap.size w w') := fun w => by
    have := Int_of 17 n w (by omega) ⟨n0, n1⟩
    rwa [intR, if_pos (by omega), if_pos hf] at this
  generalize n % 18446744073709551616 = b at *
  clear R hf
  go_enter Tryz.func8, Tryz.ntmps8
  go_wp2_with fail
  refine (RR.out _ ((Below.refl _ _).alloc (Nat.le_refl _) _)).mono ?_
  rintro e w1 ⟨rfl, hb⟩
  obtain ⟨c1, f1, z1, B1⟩ := bb1 hb
  clear hb
  go_wp2_with fail
  refine (I.out _).mono ?_
  rintro e w2 ⟨rfl, hb2⟩
  have k2 := (fun o => hb2.cell (p := ⟨w.heap.size, o, none⟩) z1)
  have j2 := (fun o => hb2.frozen (p := ⟨w.heap.size, o, none⟩) z1)
  have z2 := Nat.lt_of_lt_of_le z1 hb2.size
  have B2 := B1.trans (hb2.mono (Nat.le_of_lt z1))
  clear hb2
  go_wp2
  have v0 : w2.cell? ⟨w.heap.size, 0, none⟩ = some (.int .u8 0) := by rw [k2, c1]; simp
  have v1 : w2.cell? ⟨w.heap.size, 1, none⟩ = some (.int .u64 0) := by rw [k2, c1]; simp
  have v2 : w2.cell? ⟨w.heap.size, 2, none⟩ = some (.string ⟨#[]⟩) := by rw [k2, c1]; simp
  obtain ⟨g0, g1, g2⟩ := three_set v0 v1 v2 (.int .u8 17) (.int .u64 b) (.string E0)
  refine bodyPost_ret (v := .tuple #[V 17 b E0, .bool true]) (by simp [results, Tryz.results8, go_sem, g0, g1, g2, World.cell?_alloc_some]) rfl ⟨rfl, ?_⟩
  go_grown
set_option maxRecDepth 100000 in
set_option maxHeartbeats 2000000 in
theorem ParseN_14 (n : Int) (R : ∀ w1, Below w.heap.size w w1 → Calls Tryz.prog 16 #[.string s] w1 fun e w' => e = .returned (.tuple #[.int .i64 n, .bool false]) ∧ Below w1.heap.size w1 w') : Calls Tryz.prog 8 #[.int .u8 14, .string s] w fun e w' => e = .returned (.tuple #[V 0 0 E0, .bool false]) ∧ Below w.heap.size w w' := by
  have RR : Hid _ := R
  clear R
  go_enter Tryz.func8, Tryz.ntmps8
  go_wp2_with fail
  refine (RR.out _ ((Below.refl _ _).alloc (Nat.le_refl _) _)).mono ?_
  rintro e w1 ⟨rfl, hb⟩
  obtain ⟨c1, f1, z1, B1⟩ := bb1 hb
  clear hb
  go_wp2
  have v0 : w1.cell? ⟨w.heap.size, 0, none⟩ = some (.int .u8 0) := by rw [c1]; simp
  have v1 : w1.cell? ⟨w.heap.size, 1, none⟩ = some (.int .u64 0) := by rw [c1]; simp
  have v2 : w1.cell? ⟨w.heap.size, 2, none⟩ = some (.string ⟨#[]⟩) := by rw [c1]; simp
  refine bodyPost_ret (v := .tuple #[V 0 0 E0, .bool false]) (by simp [results, Tryz.results8, go_sem, v0, v1, v2]) rfl ⟨rfl, ?_⟩
  go_grown
end
/-- What Print tells behind its #, of a value that may be. -/
noncomputable def bkS (k b : Int) : ByteArray :=
  if k = 14 then tmS (wrap64 b)
  else if k = 15 then dateS (b / 86400000000000)
  else if k = 16 then clS b.toNat
  else dateS (b / 86400000000000) ++ ⟨#[45]⟩ ++ clS (b % 86400000000000).toNat
theorem fit_may (k b n : Int) (hm : may3 k b E0 = true) (h0 : 0 ≤ b) (h1 : b < 18446744073709551616) (hn : n % 18446744073709551616 = b) (hq : num k b = n) : fitOk k n = true := by
  unfold fitOk
  rw [hn, hm, hq]
  simp
/-- Parse of what Print tells. -/
theorem Parse_back (k b : Int) (hk : 14 ≤ k ∧ k ≤ 17) (h0 : 0 ≤ b) (h1 : b < 18446744073709551616) (hm : may3 k b E0 = true) (w : World) (u : UT7 w) (hT : Tab w) :
    Calls Tryz.prog 8 #[.int .u8 k, .string (bkS k b)] w fun e w' => e = .returned (if k = 14 ∧ b = 9223372036854775808 then .tuple #[V 0 0 E0, .bool false] else .tuple #[V k b E0, .bool true]) ∧ Below w.heap.size w w' := by
  unfold bkS
  rcases (by omega : k = 14 ∨ k = 15 ∨ k = 16 ∨ k = 17) with rfl | rfl | rfl | rfl
  · rw [if_pos rfl]
    have wb : -9223372036854775808 ≤ wrap64 b ∧ wrap64 b < 9223372036854775808 := by unfold wrap64; omega
    have we : wrap64 b % 18446744073709551616 = b := by unfold wrap64; omega
    have R : ∀ w1, Below w.heap.size w w1 → _ := fun w1 hb => readSpan_back (wrap64 b) wb.1 wb.2 w1 (u.next hb)
    by_cases c : b = 9223372036854775808
    · rw [if_pos ⟨rfl, c⟩]
      have e : wrap64 b = -9223372036854775808 := by rw [c]; unfold wrap64; omega
      refine ParseN_14 _ w 0 fun w1 hb => ?_
      have := R w1 hb
      rwa [if_pos e] at this
    · rw [if_neg (by omega)]
      have e : ¬ wrap64 b = -9223372036854775808 := by unfold wrap64; omega
      have := ParseY_14 (tmS (wrap64 b)) w (wrap64 b) wb.1 wb.2 (fit_may 14 b _ hm h0 h1 we rfl) fun w1 hb => by
        have := R w1 hb
        rwa [if_neg e] at this
      rwa [we] at this
  · rw [if_neg (by omega), if_pos rfl, if_neg (by omega)]
    have bb : b < 7258118400000000000 ∧ b % 86400000000000 = 0 := by simp [may3, mayW] at hm; omega
    have e : b / 86400000000000 * 86400000000000 = b := by omega
    have we : b % 18446744073709551616 = b := by omega
    have := ParseY_15 (dateS (b / 86400000000000)) w b (by omega) (by omega) (fit_may 15 b _ hm h0 h1 we rfl) fun w1 hb => by
      have := readDate_back (b / 86400000000000) (by omega) (by omega) w1 (tab_nextB hT hb)
      rwa [e] at this
    rwa [we] at this
  · rw [if_neg (by omega), if_neg (by omega), if_pos rfl, if_neg (by omega)]
    have bb : b < 86400000000000 := by simp [may3, mayW] at hm; omega
    have we : b % 18446744073709551616 = b := by omega
    have := ParseY_16 (clS b.toNat) w b (by omega) (by omega) (fit_may 16 b _ hm h0 h1 we rfl) fun w1 hb => by
      have := readClock_back b.toNat (by omega) w1
      rwa [show ((b.toNat : Nat) : Int) = b by omega] at this
    rwa [we] at this
  · rw [if_neg (by omega), if_neg (by omega), if_neg (by omega), if_neg (by omega)]
    have bb : b < 7258118400000000000 := by simp [may3, mayW] at hm; omega
    have we : b % 18446744073709551616 = b := by omega
    have e : b / 86400000000000 * 86400000000000 + (((b % 86400000000000).toNat : Nat) : Int) = b := by omega
    have := ParseY_17 (dateS (b / 86400000000000) ++ ⟨#[45]⟩ ++ clS (b % 86400000000000).toNat) w b (by omega) (by omega) (fit_may 17 b _ hm h0 h1 we rfl) fun w1 hb => by
      have := readBoth_back (b / 86400000000000) (b % 86400000000000).toNat (by omega) (by omega) (by omega) w1 (tab_nextB hT hb)
      rwa [e] at this
    rwa [we] at this
/-- Print's text is cut at its #. -/
def pfL (k : Int) : List UInt8 := if k = 14 then [84] else if k = 15 then [68] else if k = 16 then [84, 79, 68] else [68, 84]
theorem tp_list (k b : Int) (hk : 14 ≤ k ∧ k ≤ 17) (hm : may3 k b E0 = true) : (tpS k b E0).data.toList = pfL k ++ 35 :: (bkS k b).data.toList := by
  unfold tpS bkS pfL
  rw [if_neg (by rw [hm]; simp)]
  rcases (by omega : k = 14 ∨ k = 15 ∨ k = 16 ∨ k = 17) with rfl | rfl | rfl | rfl
  all_goals
    simp
theorem pf_ne (k : Int) : ∀ x ∈ pfL k, ¬ x = 35 := by
  unfold pfL
  split
  · decide
  · split
    · decide
    · split <;> decide
theorem Cut_back (k b : Int) (hk : 14 ≤ k ∧ k ≤ 17) (hm : may3 k b E0 = true) (hs : (tpS k b E0).size ≤ maxLen) : ∃ a : ByteArray, ∀ w, Calls Tryz.prog 7 #[.string (tpS k b E0), .string ⟨#[35]⟩] w fun e w' => e = .returned (.tuple #[.string a, .string (bkS k b), .bool true]) ∧ Below w.heap.size w w' := by
  have l := tp_list k b hk hm
  have hi := idx_at 35 (bkS k b).data.toList (pfL k) (pf_ne k)
  rw [← l] at hi
  have eb : (tpS k b E0).extract ((pfL k).length + 1) (tpS k b E0).size = bkS k b := by
    rw [ba_eq (bkS k b) _ rfl]
    refine ba_eq _ _ ?_
    rw [ext_list, take_all, l]
    simp
  have hj : (pfL k).length < (tpS k b E0).size := by
    have : (tpS k b E0).size = (tpS k b E0).data.toList.length := by simp
    rw [this, l]
    simp
  refine ⟨(tpS k b E0).extract 0 (pfL k).length, fun w => ?_⟩
  have := Cut_at (tpS k b E0) 35 (pfL k).length hs hi hj w
  rwa [eb] at this
end Go.Proofs.YtpdnlojennhmpaaGreatDoor
