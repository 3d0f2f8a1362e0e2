/- What lex's tests of bytes and its longest runs of them answer; no statement of the seat is proved here. -/
import Derived.Test.YtoiipiapgidbiaaGreatDoorRows
import Derived.WalkKit
import Derived.WalkSpells
import Derived.WalkLawsBesides
import Derived.Handy
import Derived.Deep.Light
namespace Go.Proofs.YtoiipiapgidbiaaGreatDoor
set_option linter.unusedVariables false
open Go.RowKit
theorem ret_bool {a b : Bool} (h : a = b) : Ending.returned (.bool a) = .returned (.bool b) := by rw [h]
theorem ret_int {k : IntKind} {a b : Int} (h : a = b) : Ending.returned (.int k a) = .returned (.int k b) := by rw [h]
def letB (c : Int) : Bool := decide (65 ≤ c ∧ c ≤ 90 ∨ 97 ≤ c ∧ c ≤ 122)
def digB (c : Int) : Bool := decide (48 ≤ c ∧ c ≤ 57)
def namB (c : Int) : Bool := letB c || digB c || decide (c = 95)
theorem bytes6 (c : Int) : c < 48 ∨ (48 ≤ c ∧ c ≤ 57) ∨ (57 < c ∧ c < 65) ∨ (65 ≤ c ∧ c ≤ 90) ∨ (90 < c ∧ c < 95) ∨ c = 95 ∨ c = 96 ∨ (97 ≤ c ∧ c ≤ 122) ∨ 122 < c := by omega
set_option maxHeartbeats 1000000 in
theorem isDigit_of (c : Int) (w : World) : Calls Tryz.prog 158 #[.int .u8 c] w fun e w' => e = .returned (.bool (digB c)) ∧ w' = w := by
  go_enter Tryz.func158, Tryz.ntmps158
  go_wp2
  all_goals
    go_ret
    refine ⟨ret_bool ?_, rfl⟩
    unfold digB
    rw [Bool.eq_iff_iff]
    simp
    omega
set_option maxHeartbeats 1000000 in
theorem isNameByte_of (c : Int) (w : World) : Calls Tryz.prog 118 #[.int .u8 c] w fun e w' => e = .returned (.bool (namB c)) ∧ w' = w := by
  generalize hr : namB c = r
  have R : Hid (namB c = r) := hr
  clear hr
  rcases bytes6 c with h | ⟨h, h'⟩ | ⟨h, h'⟩ | ⟨h, h'⟩ | ⟨h, h'⟩ | rfl | rfl | ⟨h, h'⟩ | h
  case inr.inr.inr.inr.inr.inl =>
    go_enter Tryz.func118, Tryz.ntmps118
    go_wp2
    go_ret
    exact ⟨ret_bool (by rw [← R.out]; rfl), rfl⟩
  case inr.inr.inr.inr.inr.inr.inl =>
    go_enter Tryz.func118, Tryz.ntmps118
    go_wp2
    go_ret
    exact ⟨ret_bool (by rw [← R.out]; rfl), rfl⟩
  all_goals
    (try have c95 : (c == 95) = false := by simp; omega)
    go_enter Tryz.func118, Tryz.ntmps118
    go_wp2
    go_ret
    refine ⟨ret_bool ?_, rfl⟩
    rw [← R.out]
    go_light
    unfold namB letB digB
    rw [Bool.eq_iff_iff]
    simp only [Bool.or_eq_true, decide_eq_true_eq, Bool.false_eq_true, true_iff, false_iff]
    omega
/-- How long the run of such bytes is that a list begins with. -/
def runL (p : Int → Bool) : List UInt8 → Nat
  | [] => 0
  | c :: l => if p c.toNat then runL p l + 1 else 0
theorem runL_le (p : Int → Bool) (l : List UInt8) : runL p l ≤ l.length := by
  induction l with
  | nil => simp [runL]
  | cons c l ih => simp only [runL]; split <;> simp <;> omega
theorem runL_drop (p : Int → Bool) (s : ByteArray) (k : Nat) (h : k < s.size) : runL p (s.data.toList.drop k) = if p (s[k].toNat : Int) then runL p (s.data.toList.drop (k + 1)) + 1 else 0 := by
  have : s.data.toList.drop k = s[k] :: s.data.toList.drop (k + 1) := by
    rw [List.drop_eq_getElem_cons (by simpa using h)]; rfl
  rw [this]; rfl
set_option maxHeartbeats 1000000 in
theorem runEnd_name (s : ByteArray) (i : Nat) (w : World) (hs : s.size ≤ maxLen) (hi : i ≤ s.size) :
    Calls Tryz.prog 117 #[.string s, .int .i64 i, .func (.func 118) #[] #[]] w fun e w' => e = .returned (.int .i64 ((i + runL namB (s.data.toList.drop i) : Nat) : Int)) ∧ w' = w := by
  unfold maxLen at hs
  go_enter Tryz.func117, Tryz.ntmps117
  go_wp2_with fail
  go_loop [1] (fun v => ∃ k : Nat, i ≤ k ∧ k ≤ s.size ∧ v = .int .i64 k ∧ Hid (i + runL namB (s.data.toList.drop i) = k + runL namB (s.data.toList.drop k))) (fun v => s.size - (intOf v).toNat)
  case atStart => exact ⟨i, Nat.le_refl _, hi, rfl, rfl⟩
  case round =>
    obtain ⟨k, h1, h2, rfl, H⟩ := hrel
    by_cases hlt : k < s.size
    · have HD : Hid _ := runL_drop namB s k hlt
      cases c : namB (s[k].toNat : Int)
      · go_wp2_with (go_at_call 118; refine (isNameByte_of _ _).mono ?_; rintro e w1 ⟨rfl, rfl⟩)
        go_ret
        refine ⟨ret_int ?_, rfl⟩
        have a := H.out
        have b := HD.out
        rw [c] at b
        simp only [Bool.false_eq_true, if_false] at b
        omega
      · go_wp2_with (go_at_call 118; refine (isNameByte_of _ _).mono ?_; rintro e w1 ⟨rfl, rfl⟩)
        go_round
        case rel =>
          refine ⟨k + 1, by omega, by omega, by go_num, ?_⟩
          have a := H.out
          have b := HD.out
          rw [c] at b
          simp only [if_true] at b
          show _ = _
          omega
        case measure => simp [intOf]; omega
    · go_wp2
      go_ret
      refine ⟨ret_int ?_, rfl⟩
      have a := H.out
      rw [show s.data.toList.drop k = [] from List.drop_eq_nil_of_le (by simp; omega)] at a
      simp only [runL] at a
      omega
set_option maxHeartbeats 1000000 in
theorem runEnd_digit (s : ByteArray) (i : Nat) (w : World) (hs : s.size ≤ maxLen) (hi : i ≤ s.size) :
    Calls Tryz.prog 117 #[.string s, .int .i64 i, .func (.func 158) #[] #[]] w fun e w' => e = .returned (.int .i64 ((i + runL digB (s.data.toList.drop i) : Nat) : Int)) ∧ w' = w := by
  unfold maxLen at hs
  go_enter Tryz.func117, Tryz.ntmps117
  go_wp2_with fail
  go_loop [1] (fun v => ∃ k : Nat, i ≤ k ∧ k ≤ s.size ∧ v = .int .i64 k ∧ Hid (i + runL digB (s.data.toList.drop i) = k + runL digB (s.data.toList.drop k))) (fun v => s.size - (intOf v).toNat)
  case atStart => exact ⟨i, Nat.le_refl _, hi, rfl, rfl⟩
  case round =>
    obtain ⟨k, h1, h2, rfl, H⟩ := hrel
    by_cases hlt : k < s.size
    · have HD : Hid _ := runL_drop digB s k hlt
      cases c : digB (s[k].toNat : Int)
      · go_wp2_with (go_at_call 158; refine (isDigit_of _ _).mono ?_; rintro e w1 ⟨rfl, rfl⟩)
        go_ret
        refine ⟨ret_int ?_, rfl⟩
        have a := H.out
        have b := HD.out
        rw [c] at b
        simp only [Bool.false_eq_true, if_false] at b
        omega
      · go_wp2_with (go_at_call 158; refine (isDigit_of _ _).mono ?_; rintro e w1 ⟨rfl, rfl⟩)
        go_round
        case rel =>
          refine ⟨k + 1, by omega, by omega, by go_num, ?_⟩
          have a := H.out
          have b := HD.out
          rw [c] at b
          simp only [if_true] at b
          show _ = _
          omega
        case measure => simp [intOf]; omega
    · go_wp2
      go_ret
      refine ⟨ret_int ?_, rfl⟩
      have a := H.out
      rw [show s.data.toList.drop k = [] from List.drop_eq_nil_of_le (by simp; omega)] at a
      simp only [runL] at a
      omega
end Go.Proofs.YtoiipiapgidbiaaGreatDoor
