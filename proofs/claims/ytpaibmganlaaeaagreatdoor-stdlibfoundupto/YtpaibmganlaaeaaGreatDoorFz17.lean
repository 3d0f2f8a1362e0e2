/- Which kinds conversions take, by the program and by the document; no statement of the seat is proved here. -/
import Derived.Test.YtpaibmganlaaeaaGreatDoorFz15
import Derived.Test.YtpaibmganlaaeaaGreatDoorFz16
import Derived.Test.YtpaibmganlaaeaaGreatDoorFz08
namespace Go.Proofs.YtpaibmganlaaeaaGreatDoor
set_option linter.unusedVariables false
open Go.RowKit
/-- A value as of a kind, or the fault. -/
def cvX (k kv b : Int) (s : ByteArray) : Value :=
  if may3 kv b s = true ∧ 1 ≤ k ∧ k ≤ 19 then
    (if kv = k then .tuple #[V k b s, .int .i64 0] else if kv = 18 then frX k b.toNat else if kv = 19 then ftX k s else if 14 ≤ kv ∧ kv ≤ 17 then fmX k kv b else fpX k kv b)
  else .tuple #[V 0 0 E0, .int .i64 8]
/-- An answer: a value and a fault. -/
def Ans4 (v : Value) : Prop := ∃ k' b' s' f, v = .tuple #[V k' b' s', .int .i64 f]
theorem ans_mk (k' b' f : Int) (s' : ByteArray) : Ans4 (.tuple #[V k' b' s', .int .i64 f]) := ⟨k', b', s', f, rfl⟩
theorem ans_sz (k N : Int) : Ans4 (szV k N) := by
  obtain ⟨k', b', f, e⟩ := sz_form k N
  exact ⟨k', b', E0, f, e⟩
theorem ans_tx (k : Int) (o : Option Int) : Ans4 (txV k o) := by
  unfold txV
  cases o
  · exact ans_mk _ _ _ _
  · dsimp only
    split <;> exact ans_mk _ _ _ _
theorem ans_fr (k : Int) (x : Nat) : Ans4 (frX k x) := by
  unfold frX
  split
  · split <;> exact ans_mk _ _ _ _
  · split
    · split
      · exact ans_sz _ _
      · exact ans_mk _ _ _ _
    · exact ans_mk _ _ _ _
theorem ans_ft (k : Int) (s : ByteArray) : Ans4 (ftX k s) := by
  unfold ftX ftB
  split
  · split
    · exact ans_mk _ _ _ _
    · split <;> exact ans_mk _ _ _ _
  · split
    · exact ans_tx _ _
    · exact ans_mk _ _ _ _
theorem ans_fm (k kv b : Int) : Ans4 (fmX k kv b) := by
  unfold fmX
  split
  · exact ans_sz _ _
  · split
    · exact ans_mk _ _ _ _
    · split <;> exact ans_mk _ _ _ _
theorem ans_fp (k kv b : Int) : Ans4 (fpX k kv b) := by
  unfold fpX
  split
  · exact ans_mk _ _ _ _
  · split
    · exact ans_sz _ _
    · split
      · exact ans_mk _ _ _ _
      · split <;> exact ans_mk _ _ _ _
theorem may_kv {k b : Int} {s : ByteArray} (m : may3 k b s = true) : 1 ≤ k ∧ k ≤ 19 := by
  constructor
  · apply Classical.byContradiction
    intro q
    simp only [may3, mayW] at m
    simp [show ¬ k = 19 by omega, show ¬ k = 1 by omega, show ¬ k = 2 by omega, show ¬ k = 3 by omega, show ¬ k = 4 by omega, show ¬ k = 5 by omega, show ¬ k = 6 by omega, show ¬ k = 7 by omega, show ¬ k = 8 by omega, show ¬ k = 9 by omega, show ¬ k = 10 by omega, show ¬ k = 11 by omega, show ¬ k = 12 by omega, show ¬ k = 13 by omega, show ¬ k = 14 by omega, show ¬ k = 15 by omega, show ¬ k = 16 by omega, show ¬ k = 17 by omega, show ¬ k = 18 by omega] at m
  · apply Classical.byContradiction
    intro q
    simp only [may3, mayW] at m
    simp [show ¬ k = 19 by omega, show ¬ k = 1 by omega, show ¬ k = 2 by omega, show ¬ k = 3 by omega, show ¬ k = 4 by omega, show ¬ k = 5 by omega, show ¬ k = 6 by omega, show ¬ k = 7 by omega, show ¬ k = 8 by omega, show ¬ k = 9 by omega, show ¬ k = 10 by omega, show ¬ k = 11 by omega, show ¬ k = 12 by omega, show ¬ k = 13 by omega, show ¬ k = 14 by omega, show ¬ k = 15 by omega, show ¬ k = 16 by omega, show ¬ k = 17 by omega, show ¬ k = 18 by omega] at m
theorem may_calm {b : Int} {s : ByteArray} (h0 : 0 ≤ b) (m : may3 18 b s = true) : calm b.toNat := by
  apply calm_of
  simp [may3, mayW] at m
  rcases m.2 with q | q
  · left; omega
  · right; exact q
section
variable (k kv b : Int) (s : ByteArray) (w : World)
set_option maxRecDepth 100000 in
set_option maxHeartbeats 1000000 in
theorem Convert_bad (h0 : 0 ≤ b) (h1 : b < 18446744073709551616) (hk : 0 ≤ k ∧ k < 256) (hv : 0 ≤ kv ∧ kv < 256) (hs : s.size ≤ maxLen) (d : may3 kv b s = false ∨ ¬ (1 ≤ k ∧ k ≤ 19)) : Calls Tryz.prog 114 #[.int .u8 k, V kv b s] w fun e w' => e = .returned (.tuple #[V 0 0 E0, .int .i64 8]) ∧ Below w.heap.size w w' := by
  have M : Hid (∀ w, Calls Tryz.prog 15 #[V kv b s] w fun e w' => e = .returned (.bool (may3 kv b s)) ∧ Below w.heap.size w w') := fun w => May_of kv b s w h0 h1 hv hs
  cases m : may3 kv b s
  · rw [m] at M
    clear d m
    go_enter Tryz.func114, Tryz.ntmps114
    go_wp2_with (go_at_call 15; refine (M.out _).mono ?_; rintro e w1 ⟨rfl, hb⟩; obtain ⟨z0, z1, q0, q1, q2, q3, q4, q5, q6, HB⟩ := step_box hb; clear hb)
    exact bodyPost_ret (v := .tuple #[V 0 0 E0, .int .i64 8]) (by simp [results, Tryz.results114, go_sem, q3, q4, q5]) rfl ⟨rfl, ((HB.setCell (by simp) _).setCell (by simp) _).setCell (by simp) _⟩
  · have dk : ¬ (1 ≤ k ∧ k ≤ 19) := by
      rcases d with d | d
      · rw [m] at d
        cases d
      · exact d
    rw [m] at M
    clear d m
    have DK : Hid _ := dk
    clear dk
    go_enter Tryz.func114, Tryz.ntmps114
    go_wp2_with (first
      | (go_at_call 15; refine (M.out _).mono ?_; rintro e w1 ⟨rfl, hb⟩; obtain ⟨z0, z1, q0, q1, q2, q3, q4, q5, q6, HB⟩ := step_box hb; clear hb)
      | (go_at_call 118; refine (isKind_is k _ false hk (by symm; rw [decide_eq_false_iff_not]; exact DK.out)).mono ?_; rintro e w2 ⟨rfl, rfl⟩))
    exact bodyPost_ret (v := .tuple #[V 0 0 E0, .int .i64 8]) (by simp [results, Tryz.results114, go_sem, q3, q4, q5]) rfl ⟨rfl, ((HB.setCell (by simp) _).setCell (by simp) _).setCell (by simp) _⟩
set_option maxRecDepth 100000 in
set_option maxHeartbeats 1000000 in
theorem Convert_real (h0 : 0 ≤ b) (h1 : b < 18446744073709551616) (hk : 1 ≤ k ∧ k ≤ 19) (hs : s.size ≤ maxLen) (m : may3 18 b s = true) (ne : ¬ 18 = k) (k' b' f : Int) (s' : ByteArray)
    (F : Hid (∀ w, Calls Tryz.prog 140 #[.int .u8 k, .float .f64 b.toNat] w fun e w' => e = .returned (.tuple #[V k' b' s', .int .i64 f]) ∧ Below w.heap.size w w')) : Calls Tryz.prog 114 #[.int .u8 k, V 18 b s] w fun e w' => e = .returned (.tuple #[V k' b' s', .int .i64 f]) ∧ Below w.heap.size w w' := by
  have M : Hid (∀ w, Calls Tryz.prog 15 #[V 18 b s] w fun e w' => e = .returned (.bool true) ∧ Below w.heap.size w w') := fun w => by
    have := May_of 18 b s w h0 h1 (by omega) hs
    rwa [m] at this
  have g : ((18 : Int) == k) = false := by simpa using ne
  have hx := call_frombits
  clear m
  go_enter Tryz.func114, Tryz.ntmps114
  go_wp2_with (first
    | (go_at_call 15; refine (M.out _).mono ?_; rintro e w1 ⟨rfl, hb⟩; obtain ⟨z0, z1, q0, q1, q2, q3, q4, q5, q6, HB⟩ := step_box hb; clear hb)
    | (go_at_call 118; refine (isKind_is k _ true (by omega) (by symm; simpa using hk)).mono ?_; rintro e w2 ⟨rfl, rfl⟩)
    | (go_at_call 140; refine (F.out _).mono ?_; rintro e w4 ⟨rfl, hb4⟩; obtain ⟨u0, u1, l0, l1, l2⟩ := step2 hb4 z0 z1))
  exact bodyPost_ret (v := .tuple #[V k' b' s', .int .i64 f]) (by simp [results, Tryz.results114, go_sem, l1, q3, q4, q5]) rfl ⟨rfl, (((HB.trans (hb4.mono (Nat.le_of_lt z0))).setCell (by simp) _).setCell (by simp) _).setCell (by simp) _⟩
set_option maxRecDepth 100000 in
set_option maxHeartbeats 1000000 in
theorem Convert_str (h0 : 0 ≤ b) (h1 : b < 18446744073709551616) (hk : 1 ≤ k ∧ k ≤ 19) (hs : s.size ≤ maxLen) (m : may3 19 b s = true) (ne : ¬ 19 = k) (k' b' f : Int) (s' : ByteArray)
    (F : Hid (∀ w, Calls Tryz.prog 141 #[.int .u8 k, .string s] w fun e w' => e = .returned (.tuple #[V k' b' s', .int .i64 f]) ∧ Below w.heap.size w w')) : Calls Tryz.prog 114 #[.int .u8 k, V 19 b s] w fun e w' => e = .returned (.tuple #[V k' b' s', .int .i64 f]) ∧ Below w.heap.size w w' := by
  have M : Hid (∀ w, Calls Tryz.prog 15 #[V 19 b s] w fun e w' => e = .returned (.bool true) ∧ Below w.heap.size w w') := fun w => by
    have := May_of 19 b s w h0 h1 (by omega) hs
    rwa [m] at this
  have g : ((19 : Int) == k) = false := by simpa using ne
  clear m
  go_enter Tryz.func114, Tryz.ntmps114
  go_wp2_with (first
    | (go_at_call 15; refine (M.out _).mono ?_; rintro e w1 ⟨rfl, hb⟩; obtain ⟨z0, z1, q0, q1, q2, q3, q4, q5, q6, HB⟩ := step_box hb; clear hb)
    | (go_at_call 118; refine (isKind_is k _ true (by omega) (by symm; simpa using hk)).mono ?_; rintro e w2 ⟨rfl, rfl⟩)
    | (go_at_call 141; refine (F.out _).mono ?_; rintro e w4 ⟨rfl, hb4⟩; obtain ⟨u0, u1, l0, l1, l2⟩ := step2 hb4 z0 z1))
  exact bodyPost_ret (v := .tuple #[V k' b' s', .int .i64 f]) (by simp [results, Tryz.results114, go_sem, l1, q3, q4, q5]) rfl ⟨rfl, (((HB.trans (hb4.mono (Nat.le_of_lt z0))).setCell (by simp) _).setCell (by simp) _).setCell (by simp) _⟩
set_option maxRecDepth 100000 in
set_option maxHeartbeats 1000000 in
theorem Convert_time (h0 : 0 ≤ b) (h1 : b < 18446744073709551616) (hk : 1 ≤ k ∧ k ≤ 19) (hs : s.size ≤ maxLen) (m : may3 kv b s = true) (ne : ¬ kv = k) (et : 14 ≤ kv ∧ kv ≤ 17) (k' b' f : Int) (s' : ByteArray)
    (F : Hid (∀ w, Calls Tryz.prog 143 #[.int .u8 k, V kv b s] w fun e w' => e = .returned (.tuple #[V k' b' s', .int .i64 f]) ∧ Below w.heap.size w w')) : Calls Tryz.prog 114 #[.int .u8 k, V kv b s] w fun e w' => e = .returned (.tuple #[V k' b' s', .int .i64 f]) ∧ Below w.heap.size w w' := by
  have M : Hid (∀ w, Calls Tryz.prog 15 #[V kv b s] w fun e w' => e = .returned (.bool true) ∧ Below w.heap.size w w') := fun w => by
    have := May_of kv b s w h0 h1 (by omega) hs
    rwa [m] at this
  have g : ((kv : Int) == k) = false := by simpa using ne
  have f18 : (kv == 18) = false := by simp; omega
  have f19 : (kv == 19) = false := by simp; omega
  clear m
  go_enter Tryz.func114, Tryz.ntmps114
  go_wp2_with (first
    | (go_at_call 15; refine (M.out _).mono ?_; rintro e w1 ⟨rfl, hb⟩; obtain ⟨z0, z1, q0, q1, q2, q3, q4, q5, q6, HB⟩ := step_box hb; clear hb)
    | (go_at_call 118; refine (isKind_is k _ true (by omega) (by symm; simpa using hk)).mono ?_; rintro e w2 ⟨rfl, rfl⟩)
    | (go_at_call 142; refine (isTime_is kv _ true (by omega) (by symm; simpa using et)).mono ?_; rintro e w2 ⟨rfl, rfl⟩)
    | (go_at_call 143; refine (F.out _).mono ?_; rintro e w4 ⟨rfl, hb4⟩; obtain ⟨u0, u1, l0, l1, l2⟩ := step2 hb4 z0 z1))
  exact bodyPost_ret (v := .tuple #[V k' b' s', .int .i64 f]) (by simp [results, Tryz.results114, go_sem, l1, q3, q4, q5]) rfl ⟨rfl, (((HB.trans (hb4.mono (Nat.le_of_lt z0))).setCell (by simp) _).setCell (by simp) _).setCell (by simp) _⟩
theorem ConvertC (h0 : 0 ≤ b) (h1 : b < 18446744073709551616) (hk : 0 ≤ k ∧ k < 256) (hv : 0 ≤ kv ∧ kv < 256) (hs : s.size ≤ maxLen) (hP : Pow w) : Calls Tryz.prog 114 #[.int .u8 k, V kv b s] w fun e w' => e = .returned (cvX k kv b s) ∧ Below w.heap.size w w' := by
  unfold cvX
  by_cases a : may3 kv b s = true ∧ 1 ≤ k ∧ k ≤ 19
  · rw [if_pos a]
    obtain ⟨m, hk'⟩ := a
    have kb := may_kv m
    by_cases e : kv = k
    · rw [if_pos e]
      subst e
      exact Convert_same kv b s w h0 h1 hk' hs m
    rw [if_neg e]
    by_cases e18 : kv = 18
    · rw [if_pos e18]
      subst e18
      have F0 : Hid _ := fun w => fromFloat_x k b.toNat w (by omega) (may_calm h0 m)
      obtain ⟨k', b', s', f, q⟩ := ans_fr k b.toNat
      rw [q] at F0 ⊢
      exact Convert_real k b s w h0 h1 hk' hs m e k' b' f s' F0
    rw [if_neg e18]
    by_cases e19 : kv = 19
    · rw [if_pos e19]
      subst e19
      have F0 : Hid _ := fun w => fromText_x k s w (by omega) hs
      obtain ⟨k', b', s', f, q⟩ := ans_ft k s
      rw [q] at F0 ⊢
      exact Convert_str k b s w h0 h1 hk' hs m e k' b' f s' F0
    rw [if_neg e19]
    by_cases et : 14 ≤ kv ∧ kv ≤ 17
    · rw [if_pos et]
      have F0 : Hid _ := fun w => fromTime_x k kv b s w h0 h1 m
      obtain ⟨k', b', s', f, q⟩ := ans_fm k kv b
      rw [q] at F0 ⊢
      exact Convert_time k kv b s w h0 h1 hk' hs m e et k' b' f s' F0
    rw [if_neg et]
    have F0 : Hid _ := fun w hp => fromPlain_x k kv b s w h0 h1 hs hk' (by omega) m hp
    obtain ⟨k', b', s', f, q⟩ := ans_fp k kv b
    rw [q] at F0 ⊢
    exact Convert_plain k kv b s w h0 h1 hk' (by omega) hs m e hP k' b' f s' F0
  · rw [if_neg a]
    refine Convert_bad k kv b s w h0 h1 hk hv hs ?_
    cases m : may3 kv b s
    · exact Or.inl rfl
    · exact Or.inr fun q => a ⟨m, q⟩
end
end Go.Proofs.YtpaibmganlaaeaaGreatDoor
namespace Go.Proofs.YtpaibmganlaaeaaGreatDoor
set_option linter.unusedVariables false
open Go.RowKit
section
variable (k kv b : Int) (s : ByteArray) (w : World)
theorem num_pp {kv b : Int} (h0 : 0 ≤ b) (h1 : b < 18446744073709551616) (hv : 1 ≤ kv ∧ kv ≤ 13) : (2 ≤ kv ∧ kv ≤ 5 ∧ 9223372036854775808 ≤ b ∧ num kv b = b - 18446744073709551616) ∨ (2 ≤ kv ∧ kv ≤ 5 ∧ b < 9223372036854775808 ∧ num kv b = b) ∨ ((kv = 1 ∨ 6 ≤ kv ∧ kv ≤ 13) ∧ num kv b = b) := by
  by_cases c : 2 ≤ kv ∧ kv ≤ 5
  · by_cases g : 9223372036854775808 ≤ b
    · exact Or.inl ⟨c.1, c.2, g, by rw [num_s (by omega)]; unfold wrap64; omega⟩
    · exact Or.inr (Or.inl ⟨c.1, c.2, by omega, by rw [num_s (by omega)]; unfold wrap64; omega⟩)
  · exact Or.inr (Or.inr ⟨by omega, by rw [num_u (by omega)]⟩)
/-- LINT to a time. -/
theorem t14_sz (h0 : 9223372036854775808 ≤ b) (h1 : b < 18446744073709551616) : RV (mayW 14 b) 14 b 7 = szV 14 (b - 18446744073709551616) := by
  have e : (b - 18446744073709551616) % 18446744073709551616 = b := by omega
  have f : fitOk 14 (b - 18446744073709551616) = true := by
    unfold fitOk
    rw [e, num_s (by omega)]
    have : may3 14 b E0 = true := by simp [may3, mayW]
    rw [this]
    have : wrap64 b = b - 18446744073709551616 := by unfold wrap64; omega
    rw [this]
    simp
  unfold szV
  rw [f, if_pos rfl, e]
  have : mayW 14 b = true := by simp [mayW]
  rw [this]
  rfl
theorem tneg_sz (d : 15 ≤ k ∧ k ≤ 17) (h0 : 9223372036854775808 ≤ b) (h1 : b < 18446744073709551616) : szV k (b - 18446744073709551616) = .tuple #[V 0 0 E0, .int .i64 7] :=
  szV_no k _ (fit_no k _ (by rw [num_u (by omega)]; omega))
theorem tpos_sz (d : 14 ≤ k ∧ k ≤ 17) (h0 : 0 ≤ b) (h1 : b < 9223372036854775808) : RV (mayW k b) k b 7 = szV k b := by
  have e : b % 18446744073709551616 = b := by omega
  have n : num k b = b := by
    by_cases c : 2 ≤ k ∧ k ≤ 5 ∨ k = 14
    · rw [num_s c]; unfold wrap64; omega
    · rw [num_u c]
  have f : fitOk k b = mayW k b := by
    unfold fitOk
    rw [e, n]
    have : may3 k b E0 = mayW k b := by
      rcases (by omega : k = 14 ∨ k = 15 ∨ k = 16 ∨ k = 17) with rfl | rfl | rfl | rfl <;> simp [may3]
    rw [this]
    simp
  unfold szV
  rw [f, e]
  cases mayW k b <;> rfl
theorem fm5_sz (h0 : 0 ≤ b) (h1 : b < 18446744073709551616) (d : 14 ≤ kv ∧ kv ≤ 17) (m : mayW kv b = true) : RV (mayW 5 b) 5 b 7 = szV 5 (num kv b) := by
  have my : mayW 5 b = true := by simp [mayW]
  have key : num 5 b = num kv b := by
    rw [num_s (by omega)]
    by_cases c : kv = 14
    · rw [num_s (by omega)]
    · rw [num_u (by omega)]
      have : b < 7258118400000000000 := by
        rcases (by omega : kv = 15 ∨ kv = 16 ∨ kv = 17) with rfl | rfl | rfl <;> simp [mayW] at m <;> omega
      unfold wrap64
      omega
  have e : num kv b % 18446744073709551616 = b := by
    rw [← key, num_s (by omega)]
    unfold wrap64
    omega
  have f : fitOk 5 (num kv b) = true := by
    unfold fitOk
    rw [e, key]
    have : may3 5 b E0 = true := by simp [may3, mayW]
    rw [this]
    simp
  unfold szV
  rw [f, if_pos rfl, e, my]
  rfl
theorem fwR_x (h0 : 0 ≤ b) (h1 : b < 18446744073709551616) (hk : 1 ≤ k ∧ k ≤ 19) (hv : 1 ≤ kv ∧ kv ≤ 13) (m : may3 kv b E0 = true) (hP : Pow w) : Calls Tryz.prog 155 #[.int .u8 k, V kv b E0] w fun e w' => e = .returned (fpX k kv b) ∧ Below w.heap.size w w' := by
  have M : ∀ w, Calls Tryz.prog 4 #[V kv b E0] w fun e w' => e = .returned (.bool true) ∧ Below w.heap.size w w' := fun w => by
    have := MayR_of kv b E0 w h0 h1 (by omega) (Nat.zero_le _)
    rwa [m] at this
  have NP := num_pp (kv := kv) (b := b) h0 h1 hv
  unfold fpX
  by_cases a1 : k = 1
  · subst a1
    rw [if_pos rfl]
    rcases NP with ⟨c1, c2, g, e⟩ | ⟨c1, c2, g, e⟩ | ⟨c, e⟩
    · exact fwx_one_neg kv b w g h1 ⟨c1, c2⟩
    · exact fwx_one_sp kv b w h0 g ⟨c1, c2⟩
    · exact fwx_one_us kv b w h0 h1 c
  rw [if_neg a1]
  by_cases a2 : 2 ≤ k ∧ k ≤ 13 ∨ 14 ≤ k ∧ k ≤ 17 ∧ kv = 5
  · rw [if_pos a2]
    by_cases d : 2 ≤ k ∧ k ≤ 13
    · rcases NP with ⟨c1, c2, g, e⟩ | ⟨c1, c2, g, e⟩ | ⟨c, e⟩
      · rw [e]; exact fwx_two_neg k kv b w g h1 ⟨c1, c2⟩ d
      · rw [e]; exact fwx_two_sp k kv b w h0 g ⟨c1, c2⟩ d
      · rw [e]; exact fwx_two_us k kv b w h0 h1 c d
    · obtain ⟨d1, d2, rfl⟩ : 14 ≤ k ∧ k ≤ 17 ∧ kv = 5 := by omega
      rcases NP with ⟨c1, c2, g, e⟩ | ⟨c1, c2, g, e⟩ | ⟨c, e⟩
      · rw [e]
        by_cases k14 : k = 14
        · subst k14
          rw [← t14_sz b g h1]
          exact fwx_t14 b w g h1
        · rw [tneg_sz k b (by omega) g h1]
          exact fwx_tneg k b w g h1 (by omega)
      · rw [e, ← tpos_sz k b ⟨d1, d2⟩ h0 g]
        exact fwx_tpos k b w h0 g ⟨d1, d2⟩
      · omega
  rw [if_neg a2]
  by_cases a3 : k = 18
  · subst a3
    rw [if_pos rfl]
    rcases NP with ⟨c1, c2, g, e⟩ | ⟨c1, c2, g, e⟩ | ⟨c, e⟩
    · rw [e]; exact fwx_real_neg kv b w g h1 ⟨c1, c2⟩
    · rw [e]; exact fwx_real_sp kv b w h0 g ⟨c1, c2⟩
    · rw [e]; exact fwx_real_us kv b w h0 h1 c
  rw [if_neg a3]
  by_cases a4 : k = 19 ∧ kv ≤ 9
  · rw [if_pos a4]
    obtain ⟨rfl, g9⟩ := a4
    have bd := num_bd kv b h0 h1
    have ht : (if kv = 1 then tfS b else numS (num kv b)).size ≤ 21 := by
      split
      · unfold tfS; split <;> decide
      · exact numS_size _ (by omega) (by omega)
    have PR : Hid (∀ w, Pow w → Calls Tryz.prog 177 #[V kv b E0] w fun e w' => e = .returned (.string (if kv = 1 then tfS b else numS (num kv b))) ∧ Below w.heap.size w w') := fun w hp => by
      by_cases v1 : kv = 1
      · subst v1
        rw [if_pos rfl]
        exact PrintR_1 b w E0 M
      · rw [if_neg v1]
        exact PrintR_is kv b w hp h0 h1 (by omega) m
    rcases NP with ⟨c1, c2, g, e⟩ | ⟨c1, c2, g, e⟩ | ⟨c, e⟩
    · exact fwx_text_neg kv b w g h1 ⟨c1, c2⟩ g9 _ ht hP PR
    · exact fwx_text_sp kv b w h0 g ⟨c1, c2⟩ g9 _ ht hP PR
    · exact fwx_text_us kv b w h0 h1 c g9 _ ht hP PR
  · rw [if_neg a4]
    by_cases k19 : k = 19
    · subst k19
      exact fwx_row kv b w h0 h1 (by omega)
    · have k5 : (kv == 5) = false := by simp; omega
      rcases NP with ⟨c1, c2, g, e⟩ | ⟨c1, c2, g, e⟩ | ⟨c, e⟩
      · exact fwx_tx_neg k kv b w g h1 ⟨c1, c2⟩ (by omega) k5
      · exact fwx_tx_sp k kv b w h0 g ⟨c1, c2⟩ (by omega) k5
      · exact fwx_tx_us k kv b w h0 h1 c (by omega) k5
theorem fmR_x (h0 : 0 ≤ b) (h1 : b < 18446744073709551616) (d : 14 ≤ kv ∧ kv ≤ 17) (m : may3 kv b s = true) : Calls Tryz.prog 154 #[.int .u8 k, V kv b s] w fun e w' => e = .returned (fmX k kv b) ∧ Below w.heap.size w w' := by
  have mw := (may_w m (by omega)).1
  unfold fmX
  by_cases d1 : k = 5
  · subst d1
    rw [if_pos rfl, ← fm5_sz kv b h0 h1 d mw]
    exact fmR_5 kv b w s h0 h1
  · rw [if_neg d1]
    by_cases d2 : k = 15 ∧ kv = 17
    · rw [if_pos d2]
      obtain ⟨rfl, rfl⟩ := d2
      exact fmR_d 15 b w s _ (Or.inl ⟨rfl, rfl⟩) h0 (by simp [mayW] at mw; omega)
    · rw [if_neg d2]
      by_cases d3 : k = 16 ∧ kv = 17
      · rw [if_pos d3]
        obtain ⟨rfl, rfl⟩ := d3
        exact fmR_d 16 b w s _ (Or.inr ⟨rfl, rfl⟩) h0 (by simp [mayW] at mw; omega)
      · rw [if_neg d3]
        exact fmR_8 k kv b w s d1 d2 d3
theorem frR_x (h0 : 0 ≤ b) (h1 : b < 18446744073709551616) (hk : 1 ≤ k ∧ k < 256) (m : may3 18 b s = true) : Calls Tryz.prog 152 #[.int .u8 k, V 18 b s] w fun e w' => e = .returned (frX k b.toNat) ∧ Below w.heap.size w w' := by
  obtain ⟨x, rfl⟩ := Int.eq_ofNat_of_zero_le h0
  have mx : (x : Int) = 9221120237041090561 ∨ fnan x = false := by
    simp [may3, mayW] at m
    rcases m.2 with q | q
    · left; omega
    · right; simpa using q
  show Calls _ _ _ _ fun e w' => e = .returned (frX k x) ∧ _
  by_cases a : k = 1
  · subst a
    exact frR_1 s w x (by omega) mx
  · unfold frX
    rw [if_neg a]
    by_cases c : 2 ≤ k ∧ k ≤ 13
    · rw [if_pos c]
      exact frR_n k s w x (by omega) c
    · rw [if_neg c]
      exact frR_8 k x s w (by omega)
set_option maxRecDepth 100000 in
set_option maxHeartbeats 1000000 in
theorem ConvertD_bad (h0 : 0 ≤ b) (h1 : b < 18446744073709551616) (hk : 0 ≤ k ∧ k < 256) (hv : 0 ≤ kv ∧ kv < 256) (hs : s.size ≤ maxLen) (d : may3 kv b s = false ∨ ¬ (1 ≤ k ∧ k ≤ 19)) : Calls Tryz.prog 122 #[.int .u8 k, V kv b s] w fun e w' => e = .returned (.tuple #[V 0 0 E0, .int .i64 8]) ∧ Below w.heap.size w w' := by
  have M : Hid (∀ w, Calls Tryz.prog 4 #[V kv b s] w fun e w' => e = .returned (.bool (may3 kv b s)) ∧ Below w.heap.size w w') := fun w => MayR_of kv b s w h0 h1 hv hs
  cases m : may3 kv b s
  · rw [m] at M
    clear d m
    go_enter Tryz.func122, Tryz.ntmps122
    go_wp2_with (go_at_call 4; refine (M.out _).mono ?_; rintro e w1 ⟨rfl, hb⟩; obtain ⟨z0, z1, q0, q1, q2, q3, q4, q5, q6, HB⟩ := step_box hb; clear hb)
    exact bodyPost_ret (v := .tuple #[V 0 0 E0, .int .i64 8]) (by simp [results, Tryz.results122, go_sem, q3, q4, q5]) rfl ⟨rfl, by first | exact HB | exact ((HB.setCell (by simp) _).setCell (by simp) _).setCell (by simp) _⟩
  · have dk : ¬ (1 ≤ k ∧ k ≤ 19) := by
      rcases d with d | d
      · rw [m] at d
        cases d
      · exact d
    rw [m] at M
    clear d m
    have DK : Hid _ := dk
    clear dk
    go_enter Tryz.func122, Tryz.ntmps122
    go_wp2_with (first
      | (go_at_call 4; refine (M.out _).mono ?_; rintro e w1 ⟨rfl, hb⟩; obtain ⟨z0, z1, q0, q1, q2, q3, q4, q5, q6, HB⟩ := step_box hb; clear hb)
      | (go_at_call 76; refine (elemR_is k _ false hk (by symm; rw [decide_eq_false_iff_not]; exact DK.out)).mono ?_; rintro e w2 ⟨rfl, rfl⟩))
    exact bodyPost_ret (v := .tuple #[V 0 0 E0, .int .i64 8]) (by simp [results, Tryz.results122, go_sem, q3, q4, q5]) rfl ⟨rfl, by first | exact HB | exact ((HB.setCell (by simp) _).setCell (by simp) _).setCell (by simp) _⟩
set_option maxRecDepth 100000 in
set_option maxHeartbeats 1000000 in
theorem ConvertD_same (h0 : 0 ≤ b) (h1 : b < 18446744073709551616) (hk : 1 ≤ k ∧ k ≤ 19) (hs : s.size ≤ maxLen) (m : may3 k b s = true) : Calls Tryz.prog 122 #[.int .u8 k, V k b s] w fun e w' => e = .returned (.tuple #[V k b s, .int .i64 0]) ∧ Below w.heap.size w w' := by
  have M : Hid (∀ w, Calls Tryz.prog 4 #[V k b s] w fun e w' => e = .returned (.bool true) ∧ Below w.heap.size w w') := fun w => by
    have := MayR_of k b s w h0 h1 (by omega) hs
    rwa [m] at this
  clear m
  go_enter Tryz.func122, Tryz.ntmps122
  go_wp2_with (first
    | (go_at_call 4; refine (M.out _).mono ?_; rintro e w1 ⟨rfl, hb⟩; obtain ⟨z0, z1, q0, q1, q2, q3, q4, q5, q6, HB⟩ := step_box hb; clear hb)
    | (go_at_call 76; refine (elemR_is k _ true (by omega) (by symm; simpa using hk)).mono ?_; rintro e w2 ⟨rfl, rfl⟩))
  exact bodyPost_ret (v := .tuple #[V k b s, .int .i64 0]) (by simp [results, Tryz.results122, go_sem, q3, q4, q5]) rfl ⟨rfl, ((HB.setCell (by simp) _).setCell (by simp) _).setCell (by simp) _⟩
set_option maxRecDepth 100000 in
set_option maxHeartbeats 1000000 in
theorem ConvertD_real (h0 : 0 ≤ b) (h1 : b < 18446744073709551616) (hk : 1 ≤ k ∧ k ≤ 19) (hs : s.size ≤ maxLen) (m : may3 18 b s = true) (ne : ¬ 18 = k) (k' b' f : Int) (s' : ByteArray)
    (F : Hid (∀ w, Calls Tryz.prog 152 #[.int .u8 k, V 18 b s] w fun e w' => e = .returned (.tuple #[V k' b' s', .int .i64 f]) ∧ Below w.heap.size w w')) : Calls Tryz.prog 122 #[.int .u8 k, V 18 b s] w fun e w' => e = .returned (.tuple #[V k' b' s', .int .i64 f]) ∧ Below w.heap.size w w' := by
  have M : Hid (∀ w, Calls Tryz.prog 4 #[V 18 b s] w fun e w' => e = .returned (.bool true) ∧ Below w.heap.size w w') := fun w => by
    have := MayR_of 18 b s w h0 h1 (by omega) hs
    rwa [m] at this
  have g : ((18 : Int) == k) = false := by simpa using ne
  clear m
  go_enter Tryz.func122, Tryz.ntmps122
  go_wp2_with (first
    | (go_at_call 4; refine (M.out _).mono ?_; rintro e w1 ⟨rfl, hb⟩; obtain ⟨z0, z1, q0, q1, q2, q3, q4, q5, q6, HB⟩ := step_box hb; clear hb)
    | (go_at_call 76; refine (elemR_is k _ true (by omega) (by symm; simpa using hk)).mono ?_; rintro e w2 ⟨rfl, rfl⟩)
    | (go_at_call 152; refine (F.out _).mono ?_; rintro e w4 ⟨rfl, hb4⟩; obtain ⟨u0, u1, l0, l1, l2⟩ := step2 hb4 z0 z1))
  exact bodyPost_ret (v := .tuple #[V k' b' s', .int .i64 f]) (by simp [results, Tryz.results122, go_sem, l1, q3, q4, q5]) rfl ⟨rfl, (((HB.trans (hb4.mono (Nat.le_of_lt z0))).setCell (by simp) _).setCell (by simp) _).setCell (by simp) _⟩
set_option maxRecDepth 100000 in
set_option maxHeartbeats 1000000 in
theorem ConvertD_str (h0 : 0 ≤ b) (h1 : b < 18446744073709551616) (hk : 1 ≤ k ∧ k ≤ 19) (hs : s.size ≤ maxLen) (m : may3 19 b s = true) (ne : ¬ 19 = k) (k' b' f : Int) (s' : ByteArray)
    (F : Hid (∀ w, Calls Tryz.prog 153 #[.int .u8 k, .string s] w fun e w' => e = .returned (.tuple #[V k' b' s', .int .i64 f]) ∧ Below w.heap.size w w')) : Calls Tryz.prog 122 #[.int .u8 k, V 19 b s] w fun e w' => e = .returned (.tuple #[V k' b' s', .int .i64 f]) ∧ Below w.heap.size w w' := by
  have M : Hid (∀ w, Calls Tryz.prog 4 #[V 19 b s] w fun e w' => e = .returned (.bool true) ∧ Below w.heap.size w w') := fun w => by
    have := MayR_of 19 b s w h0 h1 (by omega) hs
    rwa [m] at this
  have g : ((19 : Int) == k) = false := by simpa using ne
  clear m
  go_enter Tryz.func122, Tryz.ntmps122
  go_wp2_with (first
    | (go_at_call 4; refine (M.out _).mono ?_; rintro e w1 ⟨rfl, hb⟩; obtain ⟨z0, z1, q0, q1, q2, q3, q4, q5, q6, HB⟩ := step_box hb; clear hb)
    | (go_at_call 76; refine (elemR_is k _ true (by omega) (by symm; simpa using hk)).mono ?_; rintro e w2 ⟨rfl, rfl⟩)
    | (go_at_call 153; refine (F.out _).mono ?_; rintro e w4 ⟨rfl, hb4⟩; obtain ⟨u0, u1, l0, l1, l2⟩ := step2 hb4 z0 z1))
  exact bodyPost_ret (v := .tuple #[V k' b' s', .int .i64 f]) (by simp [results, Tryz.results122, go_sem, l1, q3, q4, q5]) rfl ⟨rfl, (((HB.trans (hb4.mono (Nat.le_of_lt z0))).setCell (by simp) _).setCell (by simp) _).setCell (by simp) _⟩
set_option maxRecDepth 100000 in
set_option maxHeartbeats 1000000 in
theorem ConvertD_time (h0 : 0 ≤ b) (h1 : b < 18446744073709551616) (hk : 1 ≤ k ∧ k ≤ 19) (hs : s.size ≤ maxLen) (m : may3 kv b s = true) (ne : ¬ kv = k) (et : 14 ≤ kv ∧ kv ≤ 17) (k' b' f : Int) (s' : ByteArray)
    (F : Hid (∀ w, Calls Tryz.prog 154 #[.int .u8 k, V kv b s] w fun e w' => e = .returned (.tuple #[V k' b' s', .int .i64 f]) ∧ Below w.heap.size w w')) : Calls Tryz.prog 122 #[.int .u8 k, V kv b s] w fun e w' => e = .returned (.tuple #[V k' b' s', .int .i64 f]) ∧ Below w.heap.size w w' := by
  have M : Hid (∀ w, Calls Tryz.prog 4 #[V kv b s] w fun e w' => e = .returned (.bool true) ∧ Below w.heap.size w w') := fun w => by
    have := MayR_of kv b s w h0 h1 (by omega) hs
    rwa [m] at this
  have g : ((kv : Int) == k) = false := by simpa using ne
  have f18 : (kv == 18) = false := by simp; omega
  have f19 : (kv == 19) = false := by simp; omega
  clear m
  go_enter Tryz.func122, Tryz.ntmps122
  go_wp2_with (first
    | (go_at_call 4; refine (M.out _).mono ?_; rintro e w1 ⟨rfl, hb⟩; obtain ⟨z0, z1, q0, q1, q2, q3, q4, q5, q6, HB⟩ := step_box hb; clear hb)
    | (go_at_call 76; refine (elemR_is k _ true (by omega) (by symm; simpa using hk)).mono ?_; rintro e w2 ⟨rfl, rfl⟩)
    | (go_at_call 78; refine (TimeR_is kv _ true (by omega) (by symm; simpa using et)).mono ?_; rintro e w2 ⟨rfl, rfl⟩)
    | (go_at_call 154; refine (F.out _).mono ?_; rintro e w4 ⟨rfl, hb4⟩; obtain ⟨u0, u1, l0, l1, l2⟩ := step2 hb4 z0 z1))
  exact bodyPost_ret (v := .tuple #[V k' b' s', .int .i64 f]) (by simp [results, Tryz.results122, go_sem, l1, q3, q4, q5]) rfl ⟨rfl, (((HB.trans (hb4.mono (Nat.le_of_lt z0))).setCell (by simp) _).setCell (by simp) _).setCell (by simp) _⟩
set_option maxRecDepth 100000 in
set_option maxHeartbeats 1000000 in
theorem ConvertD_plain (h0 : 0 ≤ b) (h1 : b < 18446744073709551616) (hk : 1 ≤ k ∧ k ≤ 19) (hs : s.size ≤ maxLen) (m : may3 kv b s = true) (ne : ¬ kv = k) (hv : 1 ≤ kv ∧ kv ≤ 13) (hP : Pow w) (k' b' f : Int) (s' : ByteArray)
    (F : Hid (∀ w, Pow w → Calls Tryz.prog 155 #[.int .u8 k, V kv b s] w fun e w' => e = .returned (.tuple #[V k' b' s', .int .i64 f]) ∧ Below w.heap.size w w')) : Calls Tryz.prog 122 #[.int .u8 k, V kv b s] w fun e w' => e = .returned (.tuple #[V k' b' s', .int .i64 f]) ∧ Below w.heap.size w w' := by
  have M : Hid (∀ w, Calls Tryz.prog 4 #[V kv b s] w fun e w' => e = .returned (.bool true) ∧ Below w.heap.size w w') := fun w => by
    have := MayR_of kv b s w h0 h1 (by omega) hs
    rwa [m] at this
  have g : ((kv : Int) == k) = false := by simpa using ne
  have f18 : (kv == 18) = false := by simp; omega
  have f19 : (kv == 19) = false := by simp; omega
  have HP : Hid (Pow w) := hP
  clear hP
  clear m
  go_enter Tryz.func122, Tryz.ntmps122
  go_wp2_with (first
    | (go_at_call 4; refine (M.out _).mono ?_; rintro e w1 ⟨rfl, hb⟩; obtain ⟨z0, z1, q0, q1, q2, q3, q4, q5, q6, HB⟩ := step_box hb; clear hb)
    | (go_at_call 76; refine (elemR_is k _ true (by omega) (by symm; simpa using hk)).mono ?_; rintro e w2 ⟨rfl, rfl⟩)
    | (go_at_call 78; refine (TimeR_is kv _ false (by omega) (by symm; simp; omega)).mono ?_; rintro e w2 ⟨rfl, rfl⟩)
    | (go_at_call 155; refine (F.out _ (pow_below HP.out HB)).mono ?_; rintro e w4 ⟨rfl, hb4⟩; obtain ⟨u0, u1, l0, l1, l2⟩ := step2 hb4 z0 z1))
  exact bodyPost_ret (v := .tuple #[V k' b' s', .int .i64 f]) (by simp [results, Tryz.results122, go_sem, l1, q3, q4, q5]) rfl ⟨rfl, (((HB.trans (hb4.mono (Nat.le_of_lt z0))).setCell (by simp) _).setCell (by simp) _).setCell (by simp) _⟩
theorem ConvertD (h0 : 0 ≤ b) (h1 : b < 18446744073709551616) (hk : 0 ≤ k ∧ k < 256) (hv : 0 ≤ kv ∧ kv < 256) (hs : s.size ≤ maxLen) (hP : Pow w) : Calls Tryz.prog 122 #[.int .u8 k, V kv b s] w fun e w' => e = .returned (cvX k kv b s) ∧ Below w.heap.size w w' := by
  unfold cvX
  by_cases a : may3 kv b s = true ∧ 1 ≤ k ∧ k ≤ 19
  · rw [if_pos a]
    obtain ⟨m, hk'⟩ := a
    have kb := may_kv m
    by_cases e : kv = k
    · rw [if_pos e]
      subst e
      exact ConvertD_same kv b s w h0 h1 hk' hs m
    rw [if_neg e]
    by_cases e18 : kv = 18
    · rw [if_pos e18]
      subst e18
      have F0 : Hid _ := fun w => frR_x k b s w h0 h1 (by omega) m
      obtain ⟨k', b', s', f, q⟩ := ans_fr k b.toNat
      rw [q] at F0 ⊢
      exact ConvertD_real k b s w h0 h1 hk' hs m e k' b' f s' F0
    rw [if_neg e18]
    by_cases e19 : kv = 19
    · rw [if_pos e19]
      subst e19
      have F0 : Hid _ := fun w => ftR_x k w s (by omega) hs
      obtain ⟨k', b', s', f, q⟩ := ans_ft k s
      rw [q] at F0 ⊢
      exact ConvertD_str k b s w h0 h1 hk' hs m e k' b' f s' F0
    rw [if_neg e19]
    by_cases et : 14 ≤ kv ∧ kv ≤ 17
    · rw [if_pos et]
      have F0 : Hid _ := fun w => fmR_x k kv b s w h0 h1 et m
      obtain ⟨k', b', s', f, q⟩ := ans_fm k kv b
      rw [q] at F0 ⊢
      exact ConvertD_time k kv b s w h0 h1 hk' hs m e et k' b' f s' F0
    rw [if_neg et]
    have es : s = E0 := text_nil m e19
    subst es
    have F0 : Hid _ := fun w hp => fwR_x k kv b w h0 h1 hk' (by omega) m hp
    obtain ⟨k', b', s', f, q⟩ := ans_fp k kv b
    rw [q] at F0 ⊢
    exact ConvertD_plain k kv b E0 w h0 h1 hk' hs m e (by omega) hP k' b' f s' F0
  · rw [if_neg a]
    refine ConvertD_bad k kv b s w h0 h1 hk hv hs ?_
    cases m : may3 kv b s
    · exact Or.inl rfl
    · exact Or.inr fun q => a ⟨m, q⟩
end
end Go.Proofs.YtpaibmganlaaeaaGreatDoor
namespace Go.Proofs.YtpaibmganlaaeaaGreatDoor
set_option linter.unusedVariables false
open Go.RowKit
/-- Does value.Convert take a kind (asked by a sample)? -/
def cvU (tk k : Int) : Bool := fltA (cvX tk (smK k) (smB k) E0) != 8
theorem cv_all : ∀ tk k : Fin 20, 1 ≤ tk.val → (fltA (cvX (tk.val : Int) (smK (k.val : Int)) (smB (k.val : Int)) E0) != 8) = (fltA (cvX (tk.val : Int) (zeroK (k.val : Int)) 0 E0) != 8) := by decide +kernel
theorem zeroK_out (k : Int) (h : ¬ (1 ≤ k ∧ k ≤ 19)) : zeroK k = 0 := by
  unfold zeroK
  rw [if_neg h]
/-- Noughts tell the same. -/
theorem cvU_zero (tk k : Int) (ht : 1 ≤ tk ∧ tk ≤ 19) (hk : 0 ≤ k ∧ k < 256) : (fltA (cvX tk (zeroK k) 0 E0) != 8) = cvU tk k := by
  unfold cvU
  by_cases c : 1 ≤ k ∧ k ≤ 19
  · have q := cv_all ⟨tk.toNat, by omega⟩ ⟨k.toNat, by omega⟩ (by show 1 ≤ tk.toNat; omega)
    simp only at q
    rw [show ((tk.toNat : Nat) : Int) = tk by omega, show ((k.toNat : Nat) : Int) = k by omega] at q
    exact q.symm
  · rw [smK_out k c, zeroK_out k c]
    have e : smB k = 0 := by
      unfold smB smO
      have : decide (1 ≤ k ∧ k ≤ 17) = false := decide_eq_false (by omega)
      rw [this]
      rfl
    rw [e]
theorem ans_cv (k kv b : Int) (s : ByteArray) : Ans4 (cvX k kv b s) := by
  unfold cvX
  repeat' split
  · exact ans_mk _ _ _ _
  · exact ans_fr _ _
  · exact ans_ft _ _
  · exact ans_fm _ _ _
  · exact ans_fp _ _ _
  · exact ans_mk _ _ _ _
theorem flt_tuple (K B : Int) (S : ByteArray) (f : Int) : fltA (.tuple #[V K B S, .int .i64 f]) = f := rfl
set_option maxRecDepth 20000 in
set_option maxHeartbeats 1000000 in
theorem converted_of (tk : Int) (a : Addr) (n cap : Nat) (κ : Nat → Int) (w : World) (ht : 1 ≤ tk ∧ tk ≤ 19) (hP : Pow w) (hk : KsAt w a n κ) (h0 : 0 < n) (r0 : 0 ≤ κ 0 ∧ κ 0 < 256) :
    Calls Tryz.prog 72 #[.int .i64 tk, .slice (some a) n cap] w fun e w' => e = .returned (.int .u8 (gvK tk (cvU tk (κ 0)))) ∧ Below w.heap.size w w' := by
  have d0 : w.cell? a = some (.int .u8 (κ 0)) := by have := hk 0 h0; rwa [Addr.add_zero'] at this
  have p0 : (0 : Int) < n := by omega
  have q0 : 0 < n := h0
  have S : Hid (∀ w, Calls Tryz.prog 87 #[.int .u8 (κ 0)] w fun e w' => e = .returned (V (smK (κ 0)) (smB (κ 0)) E0) ∧ Below w.heap.size w w') := fun w => sample_of (κ 0) w r0
  have rg := sm_rg (κ 0) r0
  have wt : IntKind.u8.wrap tk = tk := by rw [IntKind.wrap_u8]; omega
  obtain ⟨K, B, SS, f, e⟩ := ans_cv tk (smK (κ 0)) (smB (κ 0)) E0
  have T : Hid (∀ w, Pow w → Calls Tryz.prog 114 #[.int .u8 tk, V (smK (κ 0)) (smB (κ 0)) E0] w fun e w' => e = .returned (.tuple #[V K B SS, .int .i64 f]) ∧ Below w.heap.size w w') := fun w hp => by
    rw [← e]
    exact ConvertC tk _ _ _ w rg.2.2.1 rg.2.2.2 (by omega) ⟨rg.1, rg.2.1⟩ (by decide) hp
  have ec : cvU tk (κ 0) = (f != 8) := by unfold cvU; rw [e, flt_tuple]
  rw [ec]
  have HP : Hid (Pow w) := hP
  clear hk rg r0 e ec hP
  generalize κ 0 = k at *
  generalize smK k = sk at *
  generalize smB k = sb at *
  obtain ⟨p, ep⟩ : ∃ p, (f != 8) = p := ⟨_, rfl⟩
  rw [ep]
  go_enter Tryz.func72, Tryz.ntmps72
  go_wp2_with (first | (go_at_call 87; refine (S.out _).mono ?_; rintro e w1 ⟨rfl, hb⟩; have HB : Hid (Below w.heap.size w w1) := hb; clear hb) | (go_at_call 114; refine (T.out _ (pow_below HP.out HB.out)).mono ?_; rintro e w2 ⟨rfl, hb⟩; have HB2 : Hid (Below w.heap.size w w2) := HB.out.trans (hb.mono HB.out.size); clear hb) | (go_at_call 90; refine (given_of _ _ _).mono ?_; rintro e w3 ⟨rfl, h3⟩; subst h3))
  go_ret
  exact ⟨rfl, HB2.out.alloc HB2.out.size _⟩
set_option maxRecDepth 20000 in
set_option maxHeartbeats 1000000 in
theorem convertsR_of (k tk : Int) (w : World) (ht : 1 ≤ tk ∧ tk ≤ 19) (hk : 0 ≤ k ∧ k < 256) (hP : Pow w) :
    Calls Tryz.prog 81 #[.int .u8 k, .int .u8 tk] w fun e w' => e = .returned (.bool (cvU tk k)) ∧ Below w.heap.size w w' := by
  rw [← cvU_zero tk k ht hk]
  have zr : 0 ≤ zeroK k ∧ zeroK k < 256 := by unfold zeroK; split <;> omega
  obtain ⟨K, B, SS, f, e⟩ := ans_cv tk (zeroK k) 0 E0
  have T : Hid (∀ w, Pow w → Calls Tryz.prog 122 #[.int .u8 tk, V (zeroK k) 0 E0] w fun e w' => e = .returned (.tuple #[V K B SS, .int .i64 f]) ∧ Below w.heap.size w w') := fun w hp => by
    rw [← e]
    exact ConvertD tk _ _ _ w (by omega) (by omega) (by omega) zr (by decide) hp
  have Z : Hid (∀ w, Calls Tryz.prog 121 #[.int .u8 k] w fun e w' => e = .returned (V (zeroK k) 0 E0) ∧ Below w.heap.size w w') := ZeroR_of k
  rw [e, flt_tuple]
  have HP : Hid (Pow w) := hP
  clear e zr hP
  generalize zeroK k = z at *
  obtain ⟨p, ep⟩ : ∃ p, (f != 8) = p := ⟨_, rfl⟩
  rw [ep]
  go_enter Tryz.func81, Tryz.ntmps81
  go_wp2_with (first | (go_at_call 121; refine (Z.out _).mono ?_; rintro e w1 ⟨rfl, hb⟩; have HB : Hid (Below w.heap.size w w1) := hb; clear hb) | (go_at_call 122; refine (T.out _ (pow_below HP.out (HB.out.alloc HB.out.size _))).mono ?_; rintro e w2 ⟨rfl, hb⟩; have HB2 : Hid (Below w.heap.size w w2) := (HB.out.alloc HB.out.size _).trans (hb.mono (by have := HB.out.size; simp; omega)); clear hb))
  go_ret
  exact ⟨rfl, HB2.out.alloc HB2.out.size _⟩
end Go.Proofs.YtpaibmganlaaeaaGreatDoor
