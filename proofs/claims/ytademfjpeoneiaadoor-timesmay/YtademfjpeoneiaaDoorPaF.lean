/- What Parse of times answers, of any kind and text: a value of the kind that may be, or nothing; no statement of the seat is proved here. -/
import Derived.Test.YtademfjpeoneiaaDoorPaE
import Derived.Test.YtademfjpeoneiaaDoorIntV
import Derived.Test.YtademfjpeoneiaaDoorAwk4
namespace Go.Proofs.YtademfjpeoneiaaDoor
set_option linter.unusedVariables false
open Go.RowKit
/-- A value of that kind that may be; or none. -/
def PrOk (k : Int) (e : Ending) : Prop := e = .returned (.tuple #[V 0 0 E0, .bool false]) ∨ ∃ b, e = .returned (.tuple #[V k b E0, .bool true]) ∧ (0 ≤ b ∧ b < 18446744073709551616) ∧ may3 k b E0 = true
theorem int_cases (k n : Int) (h : 14 ≤ k ∧ k ≤ 17) : (∃ b, intR k n = .tuple #[V k b E0, .int .i64 0] ∧ (0 ≤ b ∧ b < 18446744073709551616) ∧ may3 k b E0 = true) ∨ intR k n = .tuple #[V 0 0 E0, .int .i64 1] := by
  unfold intR
  rw [if_pos (by omega)]
  cases c : fitOk k n
  · right
    rfl
  · left
    refine ⟨n % 18446744073709551616, rfl, by omega, ?_⟩
    unfold fitOk at c
    simp only [Bool.and_eq_true] at c
    exact c.1
section
variable (k : Int) (s : ByteArray) (w : World)
set_option maxRecDepth 100000 in
set_option maxHeartbeats 2000000 in
theorem Parse_none (hk : 0 ≤ k ∧ k < 256) (h : ¬ (14 ≤ k ∧ k ≤ 17)) : Calls Tryd.prog 4 #[.int .u8 k, .string s] w fun e w' => PrOk k e ∧ Below w.heap.size w w' := by
  have k14 : (k == 14) = false := by simp; omega
  have k15 : (k == 15) = false := by simp; omega
  have k16 : (k == 16) = false := by simp; omega
  have k17 : (k == 17) = false := by simp; omega
  go_enter Tryd.func4, Tryd.ntmps4
  go_wp2
  exact bodyPost_ret (v := .tuple #[V 0 0 E0, .bool false]) (by simp [results, Tryd.results4, go_sem]) rfl ⟨Or.inl rfl, (Below.refl _ _).alloc (Nat.le_refl _) _⟩
set_option maxRecDepth 100000 in
set_option maxHeartbeats 2000000 in
theorem Parse_14 (R : ∀ w1, Below w.heap.size w w1 → Calls Tryd.prog 7 #[.string s] w1 fun e w' => RdZ e ∧ Below w1.heap.size w1 w') : Calls Tryd.prog 4 #[.int .u8 14, .string s] w fun e w' => PrOk 14 e ∧ Below w.heap.size w w' := by
  have RR : Hid _ := R
  clear R
  go_enter Tryd.func4, Tryd.ntmps4
  go_wp2_with fail
  refine (RR.out _ ((Below.refl _ _).alloc (Nat.le_refl _) _)).mono ?_
  rintro e w1 ⟨⟨n, p, rfl, n0, n1⟩, hb⟩
  obtain ⟨c1, f1, z1, B1⟩ := bb1 hb
  clear hb
  cases p
  · go_wp2
    have v0 : w1.cell? ⟨w.heap.size, 0, none⟩ = some (.int .u8 0) := by rw [c1]; simp
    have v1 : w1.cell? ⟨w.heap.size, 1, none⟩ = some (.int .u64 0) := by rw [c1]; simp
    have v2 : w1.cell? ⟨w.heap.size, 2, none⟩ = some (.string ⟨#[]⟩) := by rw [c1]; simp
    refine bodyPost_ret (v := .tuple #[V 0 0 E0, .bool false]) (by simp [results, Tryd.results4, go_sem, v0, v1, v2]) rfl ⟨Or.inl rfl, ?_⟩
    go_grown
  · have I : Hid (∀ w, Calls Tryd.prog 11 #[.int .u8 14, .int .i64 n] w fun e w' => e = .returned (intR 14 n) ∧ Below w.heap.size w w') := fun w => Int_of 14 n w (by omega) ⟨n0, n1⟩
    rcases int_cases 14 n (by omega) with ⟨b, eb, hb, mb⟩ | eb
    · rw [eb] at I
      clear eb
      go_wp2_with fail
      refine (I.out _).mono ?_
      rintro e w2 ⟨rfl, hb2⟩
      have k2 := (fun o => hb2.cell (p := ⟨w.heap.size, o, none⟩) z1)
      have j2 := (fun o => hb2.frozen (p := ⟨w.heap.size, o, none⟩) z1)
      have z2 := Nat.lt_of_lt_of_le z1 hb2.size
      have B2 := B1.trans (hb2.mono (Nat.le_of_lt z1))
      clear hb2
      go_wp2
      have v0 : w2.cell? ⟨w.heap.size, 0, none⟩ = some (.int .u8 0) := by rw [k2, c1]; simp
      have v1 : w2.cell? ⟨w.heap.size, 1, none⟩ = some (.int .u64 0) := by rw [k2, c1]; simp
      have v2 : w2.cell? ⟨w.heap.size, 2, none⟩ = some (.string ⟨#[]⟩) := by rw [k2, c1]; simp
      obtain ⟨g0, g1, g2⟩ := three_set v0 v1 v2 (.int .u8 14) (.int .u64 b) (.string E0)
      refine bodyPost_ret (v := .tuple #[V 14 b E0, .bool true]) (by simp [results, Tryd.results4, go_sem, g0, g1, g2, World.cell?_alloc_some]) rfl ⟨Or.inr ⟨b, rfl, hb, mb⟩, ?_⟩
      go_grown
    · rw [eb] at I
      clear eb
      go_wp2_with fail
      refine (I.out _).mono ?_
      rintro e w2 ⟨rfl, hb2⟩
      have k2 := (fun o => hb2.cell (p := ⟨w.heap.size, o, none⟩) z1)
      have j2 := (fun o => hb2.frozen (p := ⟨w.heap.size, o, none⟩) z1)
      have z2 := Nat.lt_of_lt_of_le z1 hb2.size
      have B2 := B1.trans (hb2.mono (Nat.le_of_lt z1))
      clear hb2
      go_wp2
      have v0 : w2.cell? ⟨w.heap.size, 0, none⟩ = some (.int .u8 0) := by rw [k2, c1]; simp
      have v1 : w2.cell? ⟨w.heap.size, 1, none⟩ = some (.int .u64 0) := by rw [k2, c1]; simp
      have v2 : w2.cell? ⟨w.heap.size, 2, none⟩ = some (.string ⟨#[]⟩) := by rw [k2, c1]; simp
      obtain ⟨g0, g1, g2⟩ := three_set v0 v1 v2 (.int .u8 0) (.int .u64 0) (.string E0)
      refine bodyPost_ret (v := .tuple #[V 0 0 E0, .bool false]) (by simp [results, Tryd.results4, go_sem, g0, g1, g2, World.cell?_alloc_some]) rfl ⟨Or.inl rfl, ?_⟩
      go_grown
set_option maxRecDepth 100000 in
set_option maxHeartbeats 2000000 in
theorem Parse_15 (R : ∀ w1, Below w.heap.size w w1 → Calls Tryd.prog 8 #[.string s] w1 fun e w' => RdZ e ∧ Below w1.heap.size w1 w') : Calls Tryd.prog 4 #[.int .u8 15, .string s] w fun e w' => PrOk 15 e ∧ Below w.heap.size w w' := by
  have RR : Hid _ := R
  clear R
  go_enter Tryd.func4, Tryd.ntmps4
  go_wp2_with fail
  refine (RR.out _ ((Below.refl _ _).alloc (Nat.le_refl _) _)).mono ?_
  rintro e w1 ⟨⟨n, p, rfl, n0, n1⟩, hb⟩
  obtain ⟨c1, f1, z1, B1⟩ := bb1 hb
  clear hb
  cases p
  · go_wp2
    have v0 : w1.cell? ⟨w.heap.size, 0, none⟩ = some (.int .u8 0) := by rw [c1]; simp
    have v1 : w1.cell? ⟨w.heap.size, 1, none⟩ = some (.int .u64 0) := by rw [c1]; simp
    have v2 : w1.cell? ⟨w.heap.size, 2, none⟩ = some (.string ⟨#[]⟩) := by rw [c1]; simp
    refine bodyPost_ret (v := .tuple #[V 0 0 E0, .bool false]) (by simp [results, Tryd.results4, go_sem, v0, v1, v2]) rfl ⟨Or.inl rfl, ?_⟩
    go_grown
  · have I : Hid (∀ w, Calls Tryd.prog 11 #[.int .u8 15, .int .i64 n] w fun e w' => e = .returned (intR 15 n) ∧ Below w.heap.size w w') := fun w => Int_of 15 n w (by omega) ⟨n0, n1⟩
    rcases int_cases 15 n (by omega) with ⟨b, eb, hb, mb⟩ | eb
    · rw [eb] at I
      clear eb
      go_wp2_with fail
      refine (I.out _).mono ?_
      rintro e w2 ⟨rfl, hb2⟩
      have k2 := (fun o => hb2.cell (p := ⟨w.heap.size, o, none⟩) z1)
      have j2 := (fun o => hb2.frozen (p := ⟨w.heap.size, o, none⟩) z1)
      have z2 := Nat.lt_of_lt_of_le z1 hb2.size
      have B2 := B1.trans (hb2.mono (Nat.le_of_lt z1))
      clear hb2
      go_wp2
      have v0 : w2.cell? ⟨w.heap.size, 0, none⟩ = some (.int .u8 0) := by rw [k2, c1]; simp
      have v1 : w2.cell? ⟨w.heap.size, 1, none⟩ = some (.int .u64 0) := by rw [k2, c1]; simp
      have v2 : w2.cell? ⟨w.heap.size, 2, none⟩ = some (.string ⟨#[]⟩) := by rw [k2, c1]; simp
      obtain ⟨g0, g1, g2⟩ := three_set v0 v1 v2 (.int .u8 15) (.int .u64 b) (.string E0)
      refine bodyPost_ret (v := .tuple #[V 15 b E0, .bool true]) (by simp [results, Tryd.results4, go_sem, g0, g1, g2, World.cell?_alloc_some]) rfl ⟨Or.inr ⟨b, rfl, hb, mb⟩, ?_⟩
      go_grown
    · rw [eb] at I
      clear eb
      go_wp2_with fail
      refine (I.out _).mono ?_
      rintro e w2 ⟨rfl, hb2⟩
      have k2 := (fun o => hb2.cell (p := ⟨w.heap.size, o, none⟩) z1)
      have j2 := (fun o => hb2.frozen (p := ⟨w.heap.size, o, none⟩) z1)
      have z2 := Nat.lt_of_lt_of_le z1 hb2.size
      have B2 := B1.trans (hb2.mono (Nat.le_of_lt z1))
      clear hb2
      go_wp2
      have v0 : w2.cell? ⟨w.heap.size, 0, none⟩ = some (.int .u8 0) := by rw [k2, c1]; simp
      have v1 : w2.cell? ⟨w.heap.size, 1, none⟩ = some (.int .u64 0) := by rw [k2, c1]; simp
      have v2 : w2.cell? ⟨w.heap.size, 2, none⟩ = some (.string ⟨#[]⟩) := by rw [k2, c1]; simp
      obtain ⟨g0, g1, g2⟩ := three_set v0 v1 v2 (.int .u8 0) (.int .u64 0) (.string E0)
      refine bodyPost_ret (v := .tuple #[V 0 0 E0, .bool false]) (by simp [results, Tryd.results4, go_sem, g0, g1, g2, World.cell?_alloc_some]) rfl ⟨Or.inl rfl, ?_⟩
      go_grown
set_option maxRecDepth 100000 in
set_option maxHeartbeats 2000000 in
theorem Parse_16 (R : ∀ w1, Below w.heap.size w w1 → Calls Tryd.prog 9 #[.string s] w1 fun e w' => RdZ e ∧ Below w1.heap.size w1 w') : Calls Tryd.prog 4 #[.int .u8 16, .string s] w fun e w' => PrOk 16 e ∧ Below w.heap.size w w' := by
  have RR : Hid _ := R
  clear R
  go_enter Tryd.func4, Tryd.ntmps4
  go_wp2_with fail
  refine (RR.out _ ((Below.refl _ _).alloc (Nat.le_refl _) _)).mono ?_
  rintro e w1 ⟨⟨n, p, rfl, n0, n1⟩, hb⟩
  obtain ⟨c1, f1, z1, B1⟩ := bb1 hb
  clear hb
  cases p
  · go_wp2
    have v0 : w1.cell? ⟨w.heap.size, 0, none⟩ = some (.int .u8 0) := by rw [c1]; simp
    have v1 : w1.cell? ⟨w.heap.size, 1, none⟩ = some (.int .u64 0) := by rw [c1]; simp
    have v2 : w1.cell? ⟨w.heap.size, 2, none⟩ = some (.string ⟨#[]⟩) := by rw [c1]; simp
    refine bodyPost_ret (v := .tuple #[V 0 0 E0, .bool false]) (by simp [results, Tryd.results4, go_sem, v0, v1, v2]) rfl ⟨Or.inl rfl, ?_⟩
    go_grown
  · have I : Hid (∀ w, Calls Tryd.prog 11 #[.int .u8 16, .int .i64 n] w fun e w' => e = .returned (intR 16 n) ∧ Below w.heap.size w w') := fun w => Int_of 16 n w (by omega) ⟨n0, n1⟩
    rcases int_cases 16 n (by omega) with ⟨b, eb, hb, mb⟩ | eb
    · rw [eb] at I
      clear eb
      go_wp2_with fail
      refine (I.out _).mono ?_
      rintro e w2 ⟨rfl, hb2⟩
      have k2 := (fun o => hb2.cell (p := ⟨w.heap.size, o, none⟩) z1)
      have j2 := (fun o => hb2.frozen (p := ⟨w.heap.size, o, none⟩) z1)
      have z2 := Nat.lt_of_lt_of_le z1 hb2.size
      have B2 := B1.trans (hb2.mono (Nat.le_of_lt z1))
      clear hb2
      go_wp2
      have v0 : w2.cell? ⟨w.heap.size, 0, none⟩ = some (.int .u8 0) := by rw [k2, c1]; simp
      have v1 : w2.cell? ⟨w.heap.size, 1, none⟩ = some (.int .u64 0) := by rw [k2, c1]; simp
      have v2 : w2.cell? ⟨w.heap.size, 2, none⟩ = some (.string ⟨#[]⟩) := by rw [k2, c1]; simp
      obtain ⟨g0, g1, g2⟩ := three_set v0 v1 v2 (.int .u8 16) (.int .u64 b) (.string E0)
      refine bodyPost_ret (v := .tuple #[V 16 b E0, .bool true]) (by simp [results, Tryd.results4, go_sem, g0, g1, g2, World.cell?_alloc_some]) rfl ⟨Or.inr ⟨b, rfl, hb, mb⟩, ?_⟩
      go_grown
    · rw [eb] at I
      clear eb
      go_wp2_with fail
      refine (I.out _).mono ?_
      rintro e w2 ⟨rfl, hb2⟩
      have k2 := (fun o => hb2.cell (p := ⟨w.heap.size, o, none⟩) z1)
      have j2 := (fun o => hb2.frozen (p := ⟨w.heap.size, o, none⟩) z1)
      have z2 := Nat.lt_of_lt_of_le z1 hb2.size
      have B2 := B1.trans (hb2.mono (Nat.le_of_lt z1))
      clear hb2
      go_wp2
      have v0 : w2.cell? ⟨w.heap.size, 0, none⟩ = some (.int .u8 0) := by rw [k2, c1]; simp
      have v1 : w2.cell? ⟨w.heap.size, 1, none⟩ = some (.int .u64 0) := by rw [k2, c1]; simp
      have v2 : w2.cell? ⟨w.heap.size, 2, none⟩ = some (.string ⟨#[]⟩) := by rw [k2, c1]; simp
      obtain ⟨g0, g1, g2⟩ := three_set v0 v1 v2 (.int .u8 0) (.int .u64 0) (.string E0)
      refine bodyPost_ret (v := .tuple #[V 0 0 E0, .bool false]) (by simp [results, Tryd.results4, go_sem, g0, g1, g2, World.cell?_alloc_some]) rfl ⟨Or.inl rfl, ?_⟩
      go_grown
set_option maxRecDepth 100000 in
set_option maxHeartbeats 2000000 in
theorem Parse_17 (R : ∀ w1, Below w.heap.size w w1 → Calls Tryd.prog 10 #[.string s] w1 fun e w' => RdZ e ∧ Below w1.heap.size w1 w') : Calls Tryd.prog 4 #[.int .u8 17, .string s] w fun e w' => PrOk 17 e ∧ Below w.heap.size w w' := by
  have RR : Hid _ := R
  clear R
  go_enter Tryd.func4, Tryd.ntmps4
  go_wp2_with fail
  refine (RR.out _ ((Below.refl _ _).alloc (Nat.le_refl _) _)).mono ?_
  rintro e w1 ⟨⟨n, p, rfl, n0, n1⟩, hb⟩
  obtain ⟨c1, f1, z1, B1⟩ := bb1 hb
  clear hb
  cases p
  · go_wp2
    have v0 : w1.cell? ⟨w.heap.size, 0, none⟩ = some (.int .u8 0) := by rw [c1]; simp
    have v1 : w1.cell? ⟨w.heap.size, 1, none⟩ = some (.int .u64 0) := by rw [c1]; simp
    have v2 : w1.cell? ⟨w.heap.size, 2, none⟩ = some (.string ⟨#[]⟩) := by rw [c1]; simp
    refine bodyPost_ret (v := .tuple #[V 0 0 E0, .bool false]) (by simp [results, Tryd.results4, go_sem, v0, v1, v2]) rfl ⟨Or.inl rfl, ?_⟩
    go_grown
  · have I : Hid (∀ w, Calls Tryd.prog 11 #[.int .u8 17, .int .i64 n] w fun e w' => e = .returned (intR 17 n) ∧ Below w.heap.size w w') := fun w => Int_of 17 n w (by omega) ⟨n0, n1⟩
    rcases int_cases 17 n (by omega) with ⟨b, eb, hb, mb⟩ | eb
    · rw [eb] at I
      clear eb
      go_wp2_with fail
      refine (I.out _).mono ?_
      rintro e w2 ⟨rfl, hb2⟩
      have k2 := (fun o => hb2.cell (p := ⟨w.heap.size, o, none⟩) z1)
      have j2 := (fun o => hb2.frozen (p := ⟨w.heap.size, o, none⟩) z1)
      have z2 := Nat.lt_of_lt_of_le z1 hb2.size
      have B2 := B1.trans (hb2.mono (Nat.le_of_lt z1))
      clear hb2
      go_wp2
      have v0 : w2.cell? ⟨w.heap.size, 0, none⟩ = some (.int .u8 0) := by rw [k2, c1]; simp
      have v1 : w2.cell? ⟨w.heap.size, 1, none⟩ = some (.int .u64 0) := by rw [k2, c1]; simp
      have v2 : w2.cell? ⟨w.heap.size, 2, none⟩ = some (.string ⟨#[]⟩) := by rw [k2, c1]; simp
      obtain ⟨g0, g1, g2⟩ := three_set v0 v1 v2 (.int .u8 17) (.int .u64 b) (.string E0)
      refine bodyPost_ret (v := .tuple #[V 17 b E0, .bool true]) (by simp [results, Tryd.results4, go_sem, g0, g1, g2, World.cell?_alloc_some]) rfl ⟨Or.inr ⟨b, rfl, hb, mb⟩, ?_⟩
      go_grown
    · rw [eb] at I
      clear eb
      go_wp2_with fail
      refine (I.out _).mono ?_
      rintro e w2 ⟨rfl, hb2⟩
      have k2 := (fun o => hb2.cell (p := ⟨w.heap.size, o, none⟩) z1)
      have j2 := (fun o => hb2.frozen (p := ⟨w.heap.size, o, none⟩) z1)
      have z2 := Nat.lt_of_lt_of_le z1 hb2.size
      have B2 := B1.trans (hb2.mono (Nat.le_of_lt z1))
      clear hb2
      go_wp2
      have v0 : w2.cell? ⟨w.heap.size, 0, none⟩ = some (.int .u8 0) := by rw [k2, c1]; simp
      have v1 : w2.cell? ⟨w.heap.size, 1, none⟩ = some (.int .u64 0) := by rw [k2, c1]; simp
      have v2 : w2.cell? ⟨w.heap.size, 2, none⟩ = some (.string ⟨#[]⟩) := by rw [k2, c1]; simp
      obtain ⟨g0, g1, g2⟩ := three_set v0 v1 v2 (.int .u8 0) (.int .u64 0) (.string E0)
      refine bodyPost_ret (v := .tuple #[V 0 0 E0, .bool false]) (by simp [results, Tryd.results4, go_sem, g0, g1, g2, World.cell?_alloc_some]) rfl ⟨Or.inl rfl, ?_⟩
      go_grown
theorem Parse_of (hk : 0 ≤ k ∧ k < 256) (hs : s.size ≤ 140737488355328) (u : UT7 w) (hT : Tab w) : Calls Tryd.prog 4 #[.int .u8 k, .string s] w fun e w' => PrOk k e ∧ Below w.heap.size w w' := by
  have hm : s.size ≤ maxLen := by unfold maxLen; omega
  by_cases h : 14 ≤ k ∧ k ≤ 17
  · rcases (by omega : k = 14 ∨ k = 15 ∨ k = 16 ∨ k = 17) with rfl | rfl | rfl | rfl
    · exact Parse_14 s w fun w1 b => readSpan_of s w1 hs (u.next b)
    · exact Parse_15 s w fun w1 b => readDate_of s w1 hm (tab_next hT b)
    · exact Parse_16 s w fun w1 b => readClock_of s w1 hm
    · exact Parse_17 s w fun w1 b => readBoth_of s w1 hm (tab_next hT b)
  · exact Parse_none k s w hk h
end
end Go.Proofs.YtademfjpeoneiaaDoor
