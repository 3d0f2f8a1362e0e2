/- What the document's Print answers of an integer; no statement of the seat is proved here. -/
import Derived.Test.YtpaibmganlaaeaaGreatDoorFz13
import Derived.Test.YtpaibmganlaaeaaGreatDoorFz14
import Derived.Test.YtpaibmganlaaeaaGreatDoorIt
import Derived.Lib.ItoaMem
namespace Go.Proofs.YtpaibmganlaaeaaGreatDoor
set_option linter.unusedVariables false
open Go.RowKit
/-- A text as a BOOL. -/
def ftB (s : ByteArray) : Value := if (s.toList == [84, 82, 85, 69]) = true then .tuple #[V 1 (tb true) E0, .int .i64 0] else if (s.toList == [70, 65, 76, 83, 69]) = true then .tuple #[V 1 (tb false) E0, .int .i64 0] else .tuple #[V 0 0 E0, .int .i64 7]
/-- A text as a value of a kind. -/
def ftX (k : Int) (s : ByteArray) : Value := if k = 1 then ftB s else if 2 ≤ k ∧ k ≤ 9 then txV k (txC s.data.toList) else .tuple #[V 0 0 E0, .int .i64 8]
/-- A time as a value of a kind. -/
def fmX (k kv b : Int) : Value := if k = 5 then szV 5 (num kv b) else if k = 15 ∧ kv = 17 then .tuple #[V 15 (b - b % 86400000000000) E0, .int .i64 0] else if k = 16 ∧ kv = 17 then .tuple #[V 16 (b % 86400000000000) E0, .int .i64 0] else .tuple #[V 0 0 E0, .int .i64 8]
/-- The word of a truth value. -/
def tfS (b : Int) : ByteArray := if b = 1 then ⟨#[84, 82, 85, 69]⟩ else ⟨#[70, 65, 76, 83, 69]⟩
/-- A BOOL, an integer or a bit row as a value of a kind. -/
def fpX (k kv b : Int) : Value := if k = 1 then .tuple #[V 1 (tb (!(b == 0))) E0, .int .i64 0] else if 2 ≤ k ∧ k ≤ 13 ∨ 14 ≤ k ∧ k ≤ 17 ∧ kv = 5 then szV k (num kv b)
  else if k = 18 then .tuple #[V 18 (lrealB (floatOfInt .f64 (num kv b))) E0, .int .i64 0] else if k = 19 ∧ kv ≤ 9 then .tuple #[V 19 0 (if kv = 1 then tfS b else numS (num kv b)), .int .i64 0] else .tuple #[V 0 0 E0, .int .i64 8]
section
variable (k kv b : Int) (s : ByteArray) (x : Nat) (w : World)
set_option maxRecDepth 100000 in
set_option maxHeartbeats 1000000 in
theorem fromText_1x : Calls Tryz.prog 141 #[.int .u8 1, .string s] w fun e w' => e = .returned (ftB s) ∧ Below w.heap.size w w' := by
  unfold ftB
  cases c : (s.toList == [84, 82, 85, 69])
  · cases c2 : (s.toList == [70, 65, 76, 83, 69])
    · go_enter Tryz.func141, Tryz.ntmps141
      go_wp2
      exact bodyPost_ret (v := .tuple #[V 0 0 E0, .int .i64 7]) (by simp [results, Tryz.results141, go_sem]) rfl ⟨rfl, (Below.refl _ _).alloc (Nat.le_refl _) _⟩
    · go_enter Tryz.func141, Tryz.ntmps141
      go_wp2_with (go_at_call 92; refine (Bool_of _ _).mono ?_; rintro e w1 ⟨rfl, hb⟩; obtain ⟨z0, q0, q1, q2, q6, HB⟩ := step_zeroC hb; clear hb)
      exact bodyPost_ret (v := .tuple #[V 1 (tb false) E0, .int .i64 0]) (by simp [results, Tryz.results141, go_sem, q0, q1, q2]) rfl ⟨rfl, ((HB.setCell (by simp) _).setCell (by simp) _).setCell (by simp) _⟩
  · go_enter Tryz.func141, Tryz.ntmps141
    go_wp2_with (go_at_call 92; refine (Bool_of _ _).mono ?_; rintro e w1 ⟨rfl, hb⟩; obtain ⟨z0, q0, q1, q2, q6, HB⟩ := step_zeroC hb; clear hb)
    exact bodyPost_ret (v := .tuple #[V 1 (tb true) E0, .int .i64 0]) (by simp [results, Tryz.results141, go_sem, q0, q1, q2]) rfl ⟨rfl, ((HB.setCell (by simp) _).setCell (by simp) _).setCell (by simp) _⟩
set_option maxRecDepth 100000 in
set_option maxHeartbeats 1000000 in
theorem fromText_8x (hk : 0 ≤ k ∧ k < 256) (d : 10 ≤ k) : Calls Tryz.prog 141 #[.int .u8 k, .string s] w fun e w' => e = .returned (.tuple #[V 0 0 E0, .int .i64 8]) ∧ Below w.heap.size w w' := by
  have k1 : (k == 1) = false := by simp; omega
  go_enter Tryz.func141, Tryz.ntmps141
  go_wp2_with (go_at_call 133; refine (isInteger_is k _ false hk (by symm; simp; omega)).mono ?_; rintro e w1 ⟨rfl, rfl⟩)
  exact bodyPost_ret (v := .tuple #[V 0 0 E0, .int .i64 8]) (by simp [results, Tryz.results141, go_sem]) rfl ⟨rfl, (Below.refl _ _).alloc (Nat.le_refl _) _⟩
theorem fromText_x (hk : 1 ≤ k ∧ k < 256) (hs : s.size ≤ maxLen) : Calls Tryz.prog 141 #[.int .u8 k, .string s] w fun e w' => e = .returned (ftX k s) ∧ Below w.heap.size w w' := by
  unfold ftX
  by_cases a : k = 1
  · subst a
    rw [if_pos rfl]
    exact fromText_1x s w
  · rw [if_neg a]
    by_cases c : 2 ≤ k ∧ k ≤ 9
    · rw [if_pos c]
      exact fromTextC k s w c hs
    · rw [if_neg c]
      exact fromText_8x k s w (by omega) (by omega)
set_option maxRecDepth 100000 in
set_option maxHeartbeats 1000000 in
theorem fromTime_5x (h0 : 0 ≤ b) (h1 : b < 18446744073709551616) : Calls Tryz.prog 143 #[.int .u8 5, V kv b s] w fun e w' => e = .returned (szV 5 (num kv b)) ∧ Below w.heap.size w w' := by
  have F0 : Hid _ := fun w => fitted_sz 5 (num kv b) w (by omega) (by have := num_bd kv b h0 h1; omega)
  obtain ⟨k', b', f, ef⟩ := sz_form 5 (num kv b)
  rw [ef] at F0 ⊢
  have F : Hid (∀ w, Calls Tryz.prog 130 #[.int .u8 5, NB (num kv b), .int .i64 7] w fun e w' => e = .returned (.tuple #[V k' b' E0, .int .i64 f]) ∧ Below w.heap.size w w') := F0.out
  clear F0 ef
  go_enter Tryz.func143, Tryz.ntmps143
  go_wp2_with (first
    | (go_at_call 129; refine (numberOf_of _ _ _ _ h0 h1).mono ?_; rintro e w2 ⟨rfl, hb⟩; obtain ⟨z0, z1, q0, q1, q2, q3, q4, q5, q6, HB⟩ := step_box hb; clear hb)
    | (go_at_call 130; refine (F.out _).mono ?_; rintro e w4 ⟨rfl, hb4⟩; obtain ⟨u0, u1, l0, l1, l2⟩ := step2 hb4 z0 z1))
  exact bodyPost_ret (v := .tuple #[V k' b' E0, .int .i64 f]) (by simp [results, Tryz.results143, go_sem, l1, q3, q4, q5]) rfl ⟨rfl, (((HB.trans (hb4.mono (Nat.le_of_lt z0))).setCell (by simp) _).setCell (by simp) _).setCell (by simp) _⟩
set_option maxRecDepth 100000 in
set_option maxHeartbeats 1000000 in
theorem fromTime_8x (d : ¬ k = 5) (d2 : ¬ (k = 15 ∧ kv = 17)) (d3 : ¬ (k = 16 ∧ kv = 17)) : Calls Tryz.prog 143 #[.int .u8 k, V kv b s] w fun e w' => e = .returned (.tuple #[V 0 0 E0, .int .i64 8]) ∧ Below w.heap.size w w' := by
  have k5 : (k == 5) = false := by simpa using d
  have X : Hid _ := d2
  have Y : Hid _ := d3
  clear d d2 d3
  by_cases v17 : kv = 17
  · subst v17
    have k15 : (k == 15) = false := by rw [beq_eq_false_iff_ne]; exact fun e => X.out ⟨e, rfl⟩
    have k16 : (k == 16) = false := by rw [beq_eq_false_iff_ne]; exact fun e => Y.out ⟨e, rfl⟩
    go_enter Tryz.func143, Tryz.ntmps143
    go_wp2
    exact bodyPost_ret (v := .tuple #[V 0 0 E0, .int .i64 8]) (by simp [results, Tryz.results143, go_sem]) rfl ⟨rfl, ((Below.refl _ _).alloc (Nat.le_refl _) _).alloc (by simp) _⟩
  · have f17 : (kv == 17) = false := by simpa using v17
    by_cases a : k = 15
    · subst a
      go_enter Tryz.func143, Tryz.ntmps143
      go_wp2
      exact bodyPost_ret (v := .tuple #[V 0 0 E0, .int .i64 8]) (by simp [results, Tryz.results143, go_sem]) rfl ⟨rfl, ((Below.refl _ _).alloc (Nat.le_refl _) _).alloc (by simp) _⟩
    · by_cases a' : k = 16
      · subst a'
        go_enter Tryz.func143, Tryz.ntmps143
        go_wp2
        exact bodyPost_ret (v := .tuple #[V 0 0 E0, .int .i64 8]) (by simp [results, Tryz.results143, go_sem]) rfl ⟨rfl, ((Below.refl _ _).alloc (Nat.le_refl _) _).alloc (by simp) _⟩
      · have k15 : (k == 15) = false := by simpa using a
        have k16 : (k == 16) = false := by simpa using a'
        go_enter Tryz.func143, Tryz.ntmps143
        go_wp2
        exact bodyPost_ret (v := .tuple #[V 0 0 E0, .int .i64 8]) (by simp [results, Tryz.results143, go_sem]) rfl ⟨rfl, ((Below.refl _ _).alloc (Nat.le_refl _) _).alloc (by simp) _⟩
theorem fromTime_x (h0 : 0 ≤ b) (h1 : b < 18446744073709551616) (m : may3 kv b s = true) : Calls Tryz.prog 143 #[.int .u8 k, V kv b s] w fun e w' => e = .returned (fmX k kv b) ∧ Below w.heap.size w w' := by
  unfold fmX
  by_cases d : k = 5
  · subst d
    rw [if_pos rfl]
    exact fromTime_5x kv b s w h0 h1
  · rw [if_neg d]
    by_cases d2 : k = 15 ∧ kv = 17
    · rw [if_pos d2]
      obtain ⟨rfl, rfl⟩ := d2
      have l : b < 7258118400000000000 := by simp [may3, mayW] at m; exact m.2
      exact fromTime_d b s w h0 l
    · rw [if_neg d2]
      by_cases d3 : k = 16 ∧ kv = 17
      · rw [if_pos d3]
        obtain ⟨rfl, rfl⟩ := d3
        have l : b < 7258118400000000000 := by simp [may3, mayW] at m; exact m.2
        exact fromTime_t b s w h0 l
      · rw [if_neg d3]
        exact fromTime_8x k kv b s w d d2 d3
set_option maxRecDepth 100000 in
set_option maxHeartbeats 1000000 in
theorem fromPlain_1x : Calls Tryz.prog 144 #[.int .u8 1, V kv b s] w fun e w' => e = .returned (.tuple #[V 1 (tb (!(b == 0))) E0, .int .i64 0]) ∧ Below w.heap.size w w' := by
  obtain ⟨p, hp⟩ : ∃ p, (b == 0) = p := ⟨_, rfl⟩
  have hq : (b != 0) = !p := by rw [bne, hp]
  rw [hp]
  go_enter Tryz.func144, Tryz.ntmps144
  go_wp2_with (go_at_call 92; refine (Bool_of _ _).mono ?_; rintro e w1 ⟨rfl, hb⟩; obtain ⟨z0, z1, q0, q1, q2, q3, q4, q5, q6, HB⟩ := step_box hb; clear hb)
  exact bodyPost_ret (v := .tuple #[V 1 (tb (!p)) E0, .int .i64 0]) (by rw [← hq]; simp [results, Tryz.results144, go_sem, q3, q4, q5]) rfl ⟨rfl, ((HB.setCell (by simp) _).setCell (by simp) _).setCell (by simp) _⟩
set_option maxRecDepth 100000 in
set_option maxHeartbeats 2000000 in
theorem Print_1 (h0 : 0 ≤ b) (h1 : b < 18446744073709551616) (hs : s.size ≤ maxLen) (m : may3 1 b s = true) :
    Calls Tryz.prog 164 #[V 1 b s] w fun e w' => e = .returned (.string (tfS b)) ∧ Below w.heap.size w w' := by
  have M : Hid (∀ w, Calls Tryz.prog 15 #[V 1 b s] w fun e w' => e = .returned (.bool true) ∧ Below w.heap.size w w') := fun w => by
    have := May_of 1 b s w h0 h1 (by omega) hs
    rwa [m] at this
  clear m
  unfold tfS
  by_cases b1 : b = 1
  · rw [if_pos b1]
    subst b1
    go_enter Tryz.func164, Tryz.ntmps164
    go_wp2_with fail
    refine (M.out _).mono ?_
    rintro e w1 ⟨rfl, hb⟩
    have B : Hid (Below w.heap.size w w1) := ((Below.refl _ _).alloc (Nat.le_refl _) _).trans (hb.mono (by simp))
    obtain ⟨l0, c00, c01, c02⟩ := (Lies.new w 1 _ s _).next hb
    clear hb
    go_wp2
    go_ret
    exact ⟨rfl, B.out⟩
  · rw [if_neg b1]
    have b2 : (b == 1) = false := by simpa using b1
    clear b1
    go_enter Tryz.func164, Tryz.ntmps164
    go_wp2_with fail
    refine (M.out _).mono ?_
    rintro e w1 ⟨rfl, hb⟩
    have B : Hid (Below w.heap.size w w1) := ((Below.refl _ _).alloc (Nat.le_refl _) _).trans (hb.mono (by simp))
    obtain ⟨l0, c00, c01, c02⟩ := (Lies.new w 1 _ s _).next hb
    clear hb
    go_wp2
    go_ret
    exact ⟨rfl, B.out⟩
set_option maxRecDepth 100000 in
set_option maxHeartbeats 1000000 in
theorem fp_text_1 (h0 : 0 ≤ b) (h1 : b < 18446744073709551616) (hs : s.size ≤ maxLen) (m : may3 1 b s = true) : Calls Tryz.prog 144 #[.int .u8 19, V 1 b s] w fun e w' => e = .returned (.tuple #[V 19 0 (tfS b), .int .i64 0]) ∧ Below w.heap.size w w' := by
  have P : Hid (∀ w, Calls Tryz.prog 164 #[V 1 b s] w fun e w' => e = .returned (.string (tfS b)) ∧ Below w.heap.size w w') := fun w => Print_1 b s w h0 h1 hs m
  have ht : (tfS b).size ≤ 21 := by unfold tfS; split <;> decide
  clear m
  generalize tfS b = t at *
  go_enter Tryz.func144, Tryz.ntmps144
  go_wp2_with (first
    | (go_at_call 133; refine (isInteger_is 19 _ false (by omega) (by simp)).mono ?_; rintro e w1 ⟨rfl, rfl⟩)
    | (go_at_call 157; refine (isRow_is 19 _ false (by omega) (by simp)).mono ?_; rintro e w1 ⟨rfl, rfl⟩)
    | (go_at_call 157; refine (isRow_is 1 _ false (by omega) (by simp)).mono ?_; rintro e w1 ⟨rfl, rfl⟩)
    | (go_at_call 142; refine (isTime_is 19 _ false (by omega) (by simp)).mono ?_; rintro e w1 ⟨rfl, rfl⟩)
    | (go_at_call 164; refine (P.out _).mono ?_; rintro e w2 ⟨rfl, hb⟩; obtain ⟨z0, z1, q0, q1, q2, q3, q4, q5, q6, HB⟩ := step_box hb; clear hb)
    | (go_at_call 109; refine (Text_of _ _ (by unfold maxLen; omega)).mono ?_; rw [textR, if_pos (by omega)]; rintro e w4 ⟨rfl, hb4⟩; obtain ⟨u0, u1, l0, l1, l2⟩ := step2 hb4 z0 z1))
  exact bodyPost_ret (v := .tuple #[V 19 0 t, .int .i64 0]) (by simp [results, Tryz.results144, go_sem, l1, q3, q4, q5]) rfl ⟨rfl, (((HB.trans (hb4.mono (Nat.le_of_lt z0))).setCell (by simp) _).setCell (by simp) _).setCell (by simp) _⟩
theorem fromPlain_x (h0 : 0 ≤ b) (h1 : b < 18446744073709551616) (hs : s.size ≤ maxLen) (hk : 1 ≤ k ∧ k ≤ 19) (hv : 1 ≤ kv ∧ kv ≤ 13) (m : may3 kv b s = true) (hP : Pow w) : Calls Tryz.prog 144 #[.int .u8 k, V kv b s] w fun e w' => e = .returned (fpX k kv b) ∧ Below w.heap.size w w' := by
  unfold fpX
  by_cases a1 : k = 1
  · subst a1
    rw [if_pos rfl]
    exact fromPlain_1x kv b s w
  rw [if_neg a1]
  by_cases a2 : 2 ≤ k ∧ k ≤ 13 ∨ 14 ≤ k ∧ k ≤ 17 ∧ kv = 5
  · rw [if_pos a2]
    unfold szV
    cases f : fitOk k (num kv b)
    · rw [if_neg (by decide)]
      rcases (by omega : 2 ≤ k ∧ k ≤ 9 ∨ 10 ≤ k ∧ k ≤ 13 ∨ 14 ≤ k ∧ k ≤ 17 ∧ kv = 5) with d | d | d
      · exact fp_int_no k kv b s w h0 h1 d f
      · exact fp_row_no k kv b s w h0 h1 d f
      · obtain ⟨d1, d2, rfl⟩ := d
        exact fp_time_no k b s w h0 h1 ⟨d1, d2⟩ f
    · rw [if_pos rfl]
      rcases (by omega : 2 ≤ k ∧ k ≤ 9 ∨ 10 ≤ k ∧ k ≤ 13 ∨ 14 ≤ k ∧ k ≤ 17 ∧ kv = 5) with d | d | d
      · exact fp_int_yes k kv b s w h0 h1 d f
      · exact fp_row_yes k kv b s w h0 h1 d f
      · obtain ⟨d1, d2, rfl⟩ := d
        exact fp_time_yes k b s w h0 h1 ⟨d1, d2⟩ f
  rw [if_neg a2]
  by_cases a3 : k = 18
  · subst a3
    rw [if_pos rfl]
    exact fp_real kv b s w h0 h1
  rw [if_neg a3]
  by_cases a4 : k = 19 ∧ kv ≤ 9
  · rw [if_pos a4]
    obtain ⟨rfl, g⟩ := a4
    by_cases v1 : kv = 1
    · subst v1
      rw [if_pos rfl]
      exact fp_text_1 b s w h0 h1 hs m
    · rw [if_neg v1]
      exact fp_text_is kv b s w h0 h1 hs (by omega) m hP
  · rw [if_neg a4]
    exact fp_none k kv b s w (by omega) (by omega) (by omega)
end
end Go.Proofs.YtpaibmganlaaeaaGreatDoor
namespace Go.Proofs.YtpaibmganlaaeaaGreatDoor
set_option linter.unusedVariables false
open Go.RowKit
section
variable (l kv b : Int) (w : World)
set_option maxRecDepth 100000 in
set_option maxHeartbeats 2000000 in
theorem fwx_one_neg (h0 : 9223372036854775808 ≤ b) (h1 : b < 18446744073709551616) (hk : 2 ≤ kv ∧ kv ≤ 5) :
    Calls Tryz.prog 155 #[.int .u8 1, V kv b E0] w fun e w' => e = .returned (.tuple #[V 1 (tb (!(b == 0))) E0, .int .i64 0]) ∧ Below w.heap.size w w' := by
  have hk2 : 0 ≤ kv ∧ kv < 256 := by omega
  have wb : wrap64 b = b - 18446744073709551616 := by unfold wrap64; omega
  have ng : IntKind.u64.wrap (-b) = 18446744073709551616 - b := by rw [IntKind.wrap_u64]; omega
  obtain ⟨p, ep⟩ : ∃ p, (!(b == 0)) = p := ⟨_, rfl⟩
  have ep2 : ((18446744073709551616 - b) != 0) = p := by rw [← ep, Bool.eq_iff_iff]; simp; omega
  rw [ep]
  clear ep
  go_enter Tryz.func155, Tryz.ntmps155
  go_wp2_with (first
    | (go_at_call 17; refine (SignedR_is kv _ true hk2 (by symm; simp; omega)).mono ?_; rintro e w2 ⟨rfl, rfl⟩)
    | (go_at_call 170; refine (BoolR_of _ _).mono ?_; rintro e w1 ⟨rfl, hb⟩; obtain ⟨z0, z1, q0, q1, q2, q3, q4, q5, q6, HB⟩ := step_box hb; clear hb))
  exact bodyPost_ret (v := .tuple #[V 1 (tb p) E0, .int .i64 0]) (by simp [results, Tryz.results155, go_sem, q3, q4, q5]) rfl ⟨rfl, ((HB.setCell (by simp) _).setCell (by simp) _).setCell (by simp) _⟩
set_option maxRecDepth 100000 in
set_option maxHeartbeats 2000000 in
theorem fwx_two_neg (h0 : 9223372036854775808 ≤ b) (h1 : b < 18446744073709551616) (hk : 2 ≤ kv ∧ kv ≤ 5) (d : 2 ≤ l ∧ l ≤ 13) :
    Calls Tryz.prog 155 #[.int .u8 l, V kv b E0] w fun e w' => e = .returned (szV l (b - 18446744073709551616)) ∧ Below w.heap.size w w' := by
  have hk2 : 0 ≤ kv ∧ kv < 256 := by omega
  have wb : wrap64 b = b - 18446744073709551616 := by unfold wrap64; omega
  have ng : IntKind.u64.wrap (-b) = 18446744073709551616 - b := by rw [IntKind.wrap_u64]; omega
  have k1 : (l == 1) = false := by simp; omega
  have k18 : (l == 18) = false := by simp; omega
  have S0 : Hid (∀ w, Calls Tryz.prog 172 #[.int .u8 l, .int .u64 (18446744073709551616 - b), .bool true] w fun e w' => e = .returned (szV l (b - 18446744073709551616)) ∧ Below w.heap.size w w') := fun w => by have := sizedR_neg l w (18446744073709551616 - b) d (by omega) (by omega); rwa [show -(18446744073709551616 - b) = (b - 18446744073709551616) by omega] at this
  obtain ⟨k', b', g, eq⟩ := sz_form l (b - 18446744073709551616)
  rw [eq] at S0 ⊢
  have SZ : Hid (∀ w x n, x = true → n = (18446744073709551616 - b) → Calls Tryz.prog 172 #[.int .u8 l, .int .u64 n, .bool x] w fun e w' => e = .returned (.tuple #[V k' b' E0, .int .i64 g]) ∧ Below w.heap.size w w') := fun w x n hx hn => by subst hx; subst hn; exact S0.out w
  clear S0 eq
  have WR : Hid (∀ w, Calls Tryz.prog 16 #[.int .u8 l] w fun e w' => e = .returned (.int .i64 (widN l)) ∧ w' = w) := fun w => WidthR_is l w (by omega)
  have wd : 0 < widN l := by
    unfold widN
    rcases (by omega : l = 2 ∨ l = 3 ∨ l = 4 ∨ l = 5 ∨ l = 6 ∨ l = 7 ∨ l = 8 ∨ l = 9 ∨ l = 10 ∨ l = 11 ∨ l = 12 ∨ l = 13) with rfl | rfl | rfl | rfl | rfl | rfl | rfl | rfl | rfl | rfl | rfl | rfl <;> decide
  generalize widN l = wl at *
  go_enter Tryz.func155, Tryz.ntmps155
  go_wp2_with (first
    | (go_at_call 17; refine (SignedR_is kv _ true hk2 (by symm; simp; omega)).mono ?_; rintro e w2 ⟨rfl, rfl⟩)
    | (go_at_call 16; refine (WR.out _).mono ?_; rintro e w2 ⟨rfl, rfl⟩)
    | (go_at_call 172; refine (SZ.out _ _ _ (by first | rfl | (simp; omega)) (by first | rfl | omega)).mono ?_; rintro e w1 ⟨rfl, hb⟩; obtain ⟨z0, z1, q0, q1, q2, q3, q4, q5, q6, HB⟩ := step_box hb; clear hb))
  exact bodyPost_ret (v := .tuple #[V k' b' E0, .int .i64 g]) (by simp [results, Tryz.results155, go_sem, q3, q4, q5]) rfl ⟨rfl, ((HB.setCell (by simp) _).setCell (by simp) _).setCell (by simp) _⟩
set_option maxRecDepth 100000 in
set_option maxHeartbeats 2000000 in
theorem fwx_real_neg (h0 : 9223372036854775808 ≤ b) (h1 : b < 18446744073709551616) (hk : 2 ≤ kv ∧ kv ≤ 5) :
    Calls Tryz.prog 155 #[.int .u8 18, V kv b E0] w fun e w' => e = .returned (.tuple #[V 18 (lrealB (floatOfInt .f64 (b - 18446744073709551616))) E0, .int .i64 0]) ∧ Below w.heap.size w w' := by
  have hk2 : 0 ≤ kv ∧ kv < 256 := by omega
  have wb : wrap64 b = b - 18446744073709551616 := by unfold wrap64; omega
  have ng : IntKind.u64.wrap (-b) = 18446744073709551616 - b := by rw [IntKind.wrap_u64]; omega
  go_enter Tryz.func155, Tryz.ntmps155
  go_wp2_with (first
    | (go_at_call 17; refine (SignedR_is kv _ true hk2 (by symm; simp; omega)).mono ?_; rintro e w2 ⟨rfl, rfl⟩)
    | (go_at_call 175; refine (LrealQ_s _ _).mono ?_; rintro e w1 ⟨rfl, hb⟩; obtain ⟨z0, z1, q0, q1, q2, q3, q4, q5, q6, HB⟩ := step_box hb; clear hb))
  exact bodyPost_ret (v := .tuple #[V 18 (lrealB (floatOfInt .f64 (b - 18446744073709551616))) E0, .int .i64 0]) (by simp [results, Tryz.results155, go_sem, q3, q4, q5]) rfl ⟨rfl, ((HB.setCell (by simp) _).setCell (by simp) _).setCell (by simp) _⟩
set_option maxRecDepth 100000 in
set_option maxHeartbeats 2000000 in
theorem fwx_one_sp (h0 : 0 ≤ b) (h1 : b < 9223372036854775808) (hk : 2 ≤ kv ∧ kv ≤ 5) :
    Calls Tryz.prog 155 #[.int .u8 1, V kv b E0] w fun e w' => e = .returned (.tuple #[V 1 (tb (!(b == 0))) E0, .int .i64 0]) ∧ Below w.heap.size w w' := by
  have hk2 : 0 ≤ kv ∧ kv < 256 := by omega
  have wb : wrap64 b = b := by unfold wrap64; omega
  obtain ⟨p, ep⟩ : ∃ p, (!(b == 0)) = p := ⟨_, rfl⟩
  have ep2 : (b != 0) = p := by rw [← ep, Bool.eq_iff_iff]; simp
  rw [ep]
  clear ep
  go_enter Tryz.func155, Tryz.ntmps155
  go_wp2_with (first
    | (go_at_call 17; refine (SignedR_is kv _ true hk2 (by symm; simp; omega)).mono ?_; rintro e w2 ⟨rfl, rfl⟩)
    | (go_at_call 170; refine (BoolR_of _ _).mono ?_; rintro e w1 ⟨rfl, hb⟩; obtain ⟨z0, z1, q0, q1, q2, q3, q4, q5, q6, HB⟩ := step_box hb; clear hb))
  exact bodyPost_ret (v := .tuple #[V 1 (tb p) E0, .int .i64 0]) (by simp [results, Tryz.results155, go_sem, q3, q4, q5]) rfl ⟨rfl, ((HB.setCell (by simp) _).setCell (by simp) _).setCell (by simp) _⟩
set_option maxRecDepth 100000 in
set_option maxHeartbeats 2000000 in
theorem fwx_two_sp (h0 : 0 ≤ b) (h1 : b < 9223372036854775808) (hk : 2 ≤ kv ∧ kv ≤ 5) (d : 2 ≤ l ∧ l ≤ 13) :
    Calls Tryz.prog 155 #[.int .u8 l, V kv b E0] w fun e w' => e = .returned (szV l b) ∧ Below w.heap.size w w' := by
  have hk2 : 0 ≤ kv ∧ kv < 256 := by omega
  have wb : wrap64 b = b := by unfold wrap64; omega
  have k1 : (l == 1) = false := by simp; omega
  have k18 : (l == 18) = false := by simp; omega
  have S0 : Hid (∀ w, Calls Tryz.prog 172 #[.int .u8 l, .int .u64 b, .bool false] w fun e w' => e = .returned (szV l b) ∧ Below w.heap.size w w') := fun w => sizedR_pos l w b d h0 (by omega)
  obtain ⟨k', b', g, eq⟩ := sz_form l b
  rw [eq] at S0 ⊢
  have SZ : Hid (∀ w x n, x = false → n = b → Calls Tryz.prog 172 #[.int .u8 l, .int .u64 n, .bool x] w fun e w' => e = .returned (.tuple #[V k' b' E0, .int .i64 g]) ∧ Below w.heap.size w w') := fun w x n hx hn => by subst hx; subst hn; exact S0.out w
  clear S0 eq
  have WR : Hid (∀ w, Calls Tryz.prog 16 #[.int .u8 l] w fun e w' => e = .returned (.int .i64 (widN l)) ∧ w' = w) := fun w => WidthR_is l w (by omega)
  have wd : 0 < widN l := by
    unfold widN
    rcases (by omega : l = 2 ∨ l = 3 ∨ l = 4 ∨ l = 5 ∨ l = 6 ∨ l = 7 ∨ l = 8 ∨ l = 9 ∨ l = 10 ∨ l = 11 ∨ l = 12 ∨ l = 13) with rfl | rfl | rfl | rfl | rfl | rfl | rfl | rfl | rfl | rfl | rfl | rfl <;> decide
  generalize widN l = wl at *
  go_enter Tryz.func155, Tryz.ntmps155
  go_wp2_with (first
    | (go_at_call 17; refine (SignedR_is kv _ true hk2 (by symm; simp; omega)).mono ?_; rintro e w2 ⟨rfl, rfl⟩)
    | (go_at_call 16; refine (WR.out _).mono ?_; rintro e w2 ⟨rfl, rfl⟩)
    | (go_at_call 172; refine (SZ.out _ _ _ (by first | rfl | (simp; omega)) (by first | rfl | omega)).mono ?_; rintro e w1 ⟨rfl, hb⟩; obtain ⟨z0, z1, q0, q1, q2, q3, q4, q5, q6, HB⟩ := step_box hb; clear hb))
  exact bodyPost_ret (v := .tuple #[V k' b' E0, .int .i64 g]) (by simp [results, Tryz.results155, go_sem, q3, q4, q5]) rfl ⟨rfl, ((HB.setCell (by simp) _).setCell (by simp) _).setCell (by simp) _⟩
set_option maxRecDepth 100000 in
set_option maxHeartbeats 2000000 in
theorem fwx_real_sp (h0 : 0 ≤ b) (h1 : b < 9223372036854775808) (hk : 2 ≤ kv ∧ kv ≤ 5) :
    Calls Tryz.prog 155 #[.int .u8 18, V kv b E0] w fun e w' => e = .returned (.tuple #[V 18 (lrealB (floatOfInt .f64 b)) E0, .int .i64 0]) ∧ Below w.heap.size w w' := by
  have hk2 : 0 ≤ kv ∧ kv < 256 := by omega
  have wb : wrap64 b = b := by unfold wrap64; omega
  go_enter Tryz.func155, Tryz.ntmps155
  go_wp2_with (first
    | (go_at_call 17; refine (SignedR_is kv _ true hk2 (by symm; simp; omega)).mono ?_; rintro e w2 ⟨rfl, rfl⟩)
    | (go_at_call 175; refine (LrealQ_s _ _).mono ?_; rintro e w1 ⟨rfl, hb⟩; obtain ⟨z0, z1, q0, q1, q2, q3, q4, q5, q6, HB⟩ := step_box hb; clear hb))
  exact bodyPost_ret (v := .tuple #[V 18 (lrealB (floatOfInt .f64 b)) E0, .int .i64 0]) (by simp [results, Tryz.results155, go_sem, q3, q4, q5]) rfl ⟨rfl, ((HB.setCell (by simp) _).setCell (by simp) _).setCell (by simp) _⟩
set_option maxRecDepth 100000 in
set_option maxHeartbeats 2000000 in
theorem fwx_one_us (h0 : 0 ≤ b) (h1 : b < 18446744073709551616) (hk : kv = 1 ∨ 6 ≤ kv ∧ kv ≤ 13) :
    Calls Tryz.prog 155 #[.int .u8 1, V kv b E0] w fun e w' => e = .returned (.tuple #[V 1 (tb (!(b == 0))) E0, .int .i64 0]) ∧ Below w.heap.size w w' := by
  have hk2 : 0 ≤ kv ∧ kv < 256 := by omega
  obtain ⟨p, ep⟩ : ∃ p, (!(b == 0)) = p := ⟨_, rfl⟩
  have ep2 : (b != 0) = p := by rw [← ep, Bool.eq_iff_iff]; simp
  rw [ep]
  clear ep
  go_enter Tryz.func155, Tryz.ntmps155
  go_wp2_with (first
    | (go_at_call 17; refine (SignedR_is kv _ false hk2 (by symm; simp; omega)).mono ?_; rintro e w2 ⟨rfl, rfl⟩)
    | (go_at_call 170; refine (BoolR_of _ _).mono ?_; rintro e w1 ⟨rfl, hb⟩; obtain ⟨z0, z1, q0, q1, q2, q3, q4, q5, q6, HB⟩ := step_box hb; clear hb))
  exact bodyPost_ret (v := .tuple #[V 1 (tb p) E0, .int .i64 0]) (by simp [results, Tryz.results155, go_sem, q3, q4, q5]) rfl ⟨rfl, ((HB.setCell (by simp) _).setCell (by simp) _).setCell (by simp) _⟩
set_option maxRecDepth 100000 in
set_option maxHeartbeats 2000000 in
theorem fwx_two_us (h0 : 0 ≤ b) (h1 : b < 18446744073709551616) (hk : kv = 1 ∨ 6 ≤ kv ∧ kv ≤ 13) (d : 2 ≤ l ∧ l ≤ 13) :
    Calls Tryz.prog 155 #[.int .u8 l, V kv b E0] w fun e w' => e = .returned (szV l b) ∧ Below w.heap.size w w' := by
  have hk2 : 0 ≤ kv ∧ kv < 256 := by omega
  have k1 : (l == 1) = false := by simp; omega
  have k18 : (l == 18) = false := by simp; omega
  have S0 : Hid (∀ w, Calls Tryz.prog 172 #[.int .u8 l, .int .u64 b, .bool false] w fun e w' => e = .returned (szV l b) ∧ Below w.heap.size w w') := fun w => sizedR_pos l w b d h0 (by omega)
  obtain ⟨k', b', g, eq⟩ := sz_form l b
  rw [eq] at S0 ⊢
  have SZ : Hid (∀ w x n, x = false → n = b → Calls Tryz.prog 172 #[.int .u8 l, .int .u64 n, .bool x] w fun e w' => e = .returned (.tuple #[V k' b' E0, .int .i64 g]) ∧ Below w.heap.size w w') := fun w x n hx hn => by subst hx; subst hn; exact S0.out w
  clear S0 eq
  have WR : Hid (∀ w, Calls Tryz.prog 16 #[.int .u8 l] w fun e w' => e = .returned (.int .i64 (widN l)) ∧ w' = w) := fun w => WidthR_is l w (by omega)
  have wd : 0 < widN l := by
    unfold widN
    rcases (by omega : l = 2 ∨ l = 3 ∨ l = 4 ∨ l = 5 ∨ l = 6 ∨ l = 7 ∨ l = 8 ∨ l = 9 ∨ l = 10 ∨ l = 11 ∨ l = 12 ∨ l = 13) with rfl | rfl | rfl | rfl | rfl | rfl | rfl | rfl | rfl | rfl | rfl | rfl <;> decide
  generalize widN l = wl at *
  go_enter Tryz.func155, Tryz.ntmps155
  go_wp2_with (first
    | (go_at_call 17; refine (SignedR_is kv _ false hk2 (by symm; simp; omega)).mono ?_; rintro e w2 ⟨rfl, rfl⟩)
    | (go_at_call 16; refine (WR.out _).mono ?_; rintro e w2 ⟨rfl, rfl⟩)
    | (go_at_call 172; refine (SZ.out _ _ _ (by first | rfl | (simp; omega)) (by first | rfl | omega)).mono ?_; rintro e w1 ⟨rfl, hb⟩; obtain ⟨z0, z1, q0, q1, q2, q3, q4, q5, q6, HB⟩ := step_box hb; clear hb))
  exact bodyPost_ret (v := .tuple #[V k' b' E0, .int .i64 g]) (by simp [results, Tryz.results155, go_sem, q3, q4, q5]) rfl ⟨rfl, ((HB.setCell (by simp) _).setCell (by simp) _).setCell (by simp) _⟩
set_option maxRecDepth 100000 in
set_option maxHeartbeats 2000000 in
theorem fwx_real_us (h0 : 0 ≤ b) (h1 : b < 18446744073709551616) (hk : kv = 1 ∨ 6 ≤ kv ∧ kv ≤ 13) :
    Calls Tryz.prog 155 #[.int .u8 18, V kv b E0] w fun e w' => e = .returned (.tuple #[V 18 (lrealB (floatOfInt .f64 b)) E0, .int .i64 0]) ∧ Below w.heap.size w w' := by
  have hk2 : 0 ≤ kv ∧ kv < 256 := by omega
  go_enter Tryz.func155, Tryz.ntmps155
  go_wp2_with (first
    | (go_at_call 17; refine (SignedR_is kv _ false hk2 (by symm; simp; omega)).mono ?_; rintro e w2 ⟨rfl, rfl⟩)
    | (go_at_call 175; refine (LrealQ_s _ _).mono ?_; rintro e w1 ⟨rfl, hb⟩; obtain ⟨z0, z1, q0, q1, q2, q3, q4, q5, q6, HB⟩ := step_box hb; clear hb))
  exact bodyPost_ret (v := .tuple #[V 18 (lrealB (floatOfInt .f64 b)) E0, .int .i64 0]) (by simp [results, Tryz.results155, go_sem, q3, q4, q5]) rfl ⟨rfl, ((HB.setCell (by simp) _).setCell (by simp) _).setCell (by simp) _⟩
end
end Go.Proofs.YtpaibmganlaaeaaGreatDoor
namespace Go.Proofs.YtpaibmganlaaeaaGreatDoor
set_option linter.unusedVariables false
open Go.RowKit
theorem grow_below (w : World) (k : Nat) (os : Array Obj) : Below w.heap.size w (Go.Sort.grow (w.drewN k) os) :=
  ⟨rfl, rfl, rfl, by show w.heap.size ≤ (Go.Sort.grow (w.drewN k) os).heap.size; simp, fun j hj => Go.Sort.heap_grow_old (w.drewN k) os hj⟩
theorem itoa_size (n : Int) (h0 : -18446744073709551616 < n) (h1 : n < 18446744073709551616) : (⟨(Lib.itoa n).toArray⟩ : ByteArray).size ≤ 21 := by
  have e : (⟨(Lib.itoa n).toArray⟩ : ByteArray).size = (Lib.itoa n).length := by simp [ByteArray.size]
  rw [e]
  have d : ∀ u : Nat, u < 18446744073709551616 → (Lib.decDigits u).length ≤ 20 := by
    intro u hu
    have := decS_size u hu
    have e : (decS u).size = (Lib.decDigits u).length := by unfold decS; simp [ByteArray.size]
    omega
  unfold Lib.itoa
  split
  · have := d n.natAbs (by omega)
    simp
    omega
  · have := d n.toNat (by omega)
    omega
section
variable (k b : Int) (w : World)
set_option maxRecDepth 100000 in
set_option maxHeartbeats 2000000 in
theorem PrintR_of (hP : Pow w) (h0 : 0 ≤ b) (h1 : b < 18446744073709551616) (hk : 2 ≤ k ∧ k ≤ 9) (m : may3 k b E0 = true) :
    Calls Tryz.prog 177 #[V k b E0] w fun e w' => (∃ t, e = .returned (.string t) ∧ t.size ≤ 21) ∧ Below w.heap.size w w' := by
  have M : Hid (∀ w, Calls Tryz.prog 4 #[V k b E0] w fun e w' => e = .returned (.bool true) ∧ Below w.heap.size w w') := fun w => by
    have := MayR_of k b E0 w h0 h1 (by omega) (Nat.zero_le _)
    rwa [m] at this
  clear m
  have f1 : (k == 1) = false := by simp; omega
  have f19 : (k == 19) = false := by simp; omega
  have f18 : (k == 18) = false := by simp; omega
  have HP : Hid (Pow w) := hP
  clear hP
  go_enter Tryz.func177, Tryz.ntmps177
  go_wp2_with fail
  refine (M.out _).mono ?_
  rintro e w1 ⟨rfl, hb⟩
  have B : Hid (Below w.heap.size w w1) := ((Below.refl _ _).alloc (Nat.le_refl _) _).trans (hb.mono (by simp))
  have A0 : Hid _ := (Lies.new w k b E0 _).next hb
  have P1 : Hid (Pow w1) := pow_below HP.out B.out
  obtain ⟨l0, c00, c01, c02⟩ := A0.out
  clear hb
  by_cases u : 6 ≤ k
  · have F : Hid (∀ w, Pow w → Calls Tryz.prog 187 #[.int .u64 b, .int .i64 10] w fun e w' => e = .returned (.string (decS b.toNat)) ∧ Below w.heap.size w w') := fun w h => by
      have := FormatUint_of b.toNat (by omega) w h
      rwa [show ((b.toNat : Nat) : Int) = b by omega] at this
    have S := decS_size b.toNat (by omega)
    generalize decS b.toNat = t at *
    go_wp2_with (first
      | (go_at_call 77; refine (RowR_is k _ false (by omega) (by symm; simp; omega)).mono ?_; rintro e w2 ⟨rfl, rfl⟩)
      | (go_at_call 79; refine (UnsignedR_is k _ true (by omega) (by symm; simp; omega)).mono ?_; rintro e w2 ⟨rfl, rfl⟩)
      | (go_at_call 187; refine (F.out _ P1.out).mono ?_; rintro e w4 ⟨rfl, hb4⟩))
    go_ret
    exact ⟨⟨t, rfl, by omega⟩, B.out.trans (hb4.mono B.out.size)⟩
  · have I : Hid (∀ w, Pow w → Calls Tryz.prog 188 #[.int .i64 (wrap64 b)] w fun e w' => e = .returned (.string ⟨(Lib.itoa (wrap64 b)).toArray⟩) ∧ Below w.heap.size w w') := fun w h => by
      refine (Tryz.strconv_Itoa (wrap64 b) (by unfold wrap64; omega) (by unfold wrap64; omega) w h).mono ?_
      rintro e w' ⟨rfl, k, os, rfl⟩
      exact ⟨rfl, grow_below _ _ _⟩
    have S := itoa_size (wrap64 b) (by unfold wrap64; omega) (by unfold wrap64; omega)
    generalize (⟨(Lib.itoa (wrap64 b)).toArray⟩ : ByteArray) = t at *
    go_wp2_with (first
      | (go_at_call 77; refine (RowR_is k _ false (by omega) (by symm; simp; omega)).mono ?_; rintro e w2 ⟨rfl, rfl⟩)
      | (go_at_call 79; refine (UnsignedR_is k _ false (by omega) (by symm; simp; omega)).mono ?_; rintro e w2 ⟨rfl, rfl⟩)
      | (go_at_call 188; refine (I.out _ P1.out).mono ?_; rintro e w4 ⟨rfl, hb4⟩))
    go_ret
    exact ⟨⟨t, rfl, by omega⟩, B.out.trans (hb4.mono B.out.size)⟩
end
end Go.Proofs.YtpaibmganlaaeaaGreatDoor
