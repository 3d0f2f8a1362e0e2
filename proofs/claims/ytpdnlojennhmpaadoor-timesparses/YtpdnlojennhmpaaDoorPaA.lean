/- What the parts of times.Parse answer, of any text: cut, prefixes, the digits; no statement of the seat is proved here. -/
import Derived.Test.YtpdnlojennhmpaaDoorAwk1
import Derived.Test.YtpdnlojennhmpaaDoorBase
namespace Go.Proofs.YtpdnlojennhmpaaDoor
set_option linter.unusedVariables false
open Go.RowKit
def letT (c : Int) : Bool := decide (65 ≤ c ∧ c ≤ 90 ∨ 97 ≤ c ∧ c ≤ 122)
def digT (c : Int) : Bool := decide (48 ≤ c ∧ c ≤ 57)
theorem bytes5T (c : Int) : c < 65 ∨ (65 ≤ c ∧ c ≤ 90) ∨ (90 < c ∧ c < 97) ∨ (97 ≤ c ∧ c ≤ 122) ∨ 122 < c := by omega
set_option maxHeartbeats 1000000 in
theorem isDigitT_of (c : Int) (w : World) : Calls Tryd.prog 25 #[.int .u8 c] w fun e w' => e = .returned (.bool (digT c)) ∧ w' = w := by
  go_enter Tryd.func25, Tryd.ntmps25
  go_wp2
  all_goals
    go_ret
    refine ⟨ret_bool ?_, rfl⟩
    unfold digT
    rw [Bool.eq_iff_iff]
    simp
    omega
set_option maxHeartbeats 1000000 in
theorem isLetterT_of (c : Int) (w : World) : Calls Tryd.prog 40 #[.int .u8 c] w fun e w' => e = .returned (.bool (letT c)) ∧ w' = w := by
  generalize hr : letT c = r
  have R : Hid (letT c = r) := hr
  clear hr
  rcases bytes5T c with h | ⟨h, h'⟩ | ⟨h, h'⟩ | ⟨h, h'⟩ | h
  all_goals
    go_enter Tryd.func40, Tryd.ntmps40
    go_wp2
    go_ret
    refine ⟨ret_bool ?_, rfl⟩
    rw [← R.out]
    go_light
    unfold letT
    rw [Bool.eq_iff_iff]
    simp only [Bool.or_eq_true, decide_eq_true_eq, Bool.false_eq_true, true_iff, false_iff]
    omega
/-- How long the run of such bytes is that a list begins with. -/
def runT (p : Int → Bool) : List UInt8 → Nat
  | [] => 0
  | c :: l => if p c.toNat then runT p l + 1 else 0
theorem runT_le (p : Int → Bool) (l : List UInt8) : runT p l ≤ l.length := by
  induction l with
  | nil => simp [runT]
  | cons c l ih => simp only [runT]; split <;> simp <;> omega
theorem runT_drop (p : Int → Bool) (s : ByteArray) (k : Nat) (h : k < s.size) : runT p (s.data.toList.drop k) = if p (s[k].toNat : Int) then runT p (s.data.toList.drop (k + 1)) + 1 else 0 := by
  have : s.data.toList.drop k = s[k] :: s.data.toList.drop (k + 1) := by
    rw [List.drop_eq_getElem_cons (by simpa using h)]; rfl
  rw [this]; rfl
theorem runT_all (p : Int → Bool) (l : List UInt8) (j : Nat) (b : UInt8) (h : j < runT p l) (hb : l[j]? = some b) : p b.toNat = true := by
  induction l generalizing j with
  | nil => simp at hb
  | cons c l ih =>
    simp only [runT] at h
    split at h
    · cases j with
      | zero => simp at hb; subst hb; assumption
      | succ j => exact ih j (by omega) (by simpa using hb)
    · omega
/-- Where a text is cut. -/
def cutN (p : Int → Bool) (s : ByteArray) : Nat := runT p s.data.toList
theorem cutN_le (p : Int → Bool) (s : ByteArray) : cutN p s ≤ s.size := by
  have := runT_le p s.data.toList
  unfold cutN
  simpa using this
set_option maxHeartbeats 1000000 in
theorem cut_digit (s : ByteArray) (w : World) (hs : s.size ≤ maxLen) : Calls Tryd.prog 24 #[.string s, .func (.func 25) #[] #[]] w fun e w' => e = .returned (.tuple #[.string (s.extract 0 (cutN digT s)), .string (s.extract (cutN digT s) s.size)]) ∧ Below w.heap.size w w' := by
  have hm : s.size ≤ 9223372036854775807 := hs
  have hle := cutN_le digT s
  generalize hn : cutN digT s = N at *
  have HN : Hid (N = runT digT s.data.toList) := hn.symm
  clear hn
  go_enter Tryd.func24, Tryd.ntmps24
  go_wp2_with fail
  go_loop [6] (fun v => ∃ k : Nat, k ≤ s.size ∧ v = .int .i64 k ∧ Hid (N = k + runT digT (s.data.toList.drop k))) (fun v => s.size - (intOf v).toNat)
  case atStart => exact ⟨0, Nat.zero_le _, rfl, by show _ = _; rw [HN.out]; simp⟩
  case round =>
    obtain ⟨k, h2, rfl, H⟩ := hrel
    by_cases hlt : k < s.size
    · have HD : Hid _ := runT_drop digT s k hlt
      cases c : digT (s[k].toNat : Int)
      · have C : Hid (digT (s[k].toNat : Int) = false) := c
        clear c
        have e : k = N := by
          have a := H.out
          have b := HD.out
          rw [C.out] at b
          simp only [Bool.false_eq_true, if_false] at b
          omega
        subst e
        clear H HD HN
        go_wp2_with (go_at_call 25; refine (isDigitT_of _ _).mono ?_; rintro e w1 ⟨rfl, rfl⟩; rw [C.out])
        go_quiet (fail)
        go_wp2
        go_ret2
        exact ⟨rfl, bdN (Below.refl _ _) _⟩
      · have C : Hid (digT (s[k].toNat : Int) = true) := c
        clear c
        go_wp2_with (go_at_call 25; refine (isDigitT_of _ _).mono ?_; rintro e w1 ⟨rfl, rfl⟩; rw [C.out])
        go_round
        case rel =>
          refine ⟨k + 1, by omega, by go_num, ?_⟩
          have a := H.out
          have b := HD.out
          rw [C.out] at b
          simp only [if_true] at b
          show _ = _
          omega
        case measure => simp [intOf]; omega
    · have e : k = N := by
        have a := H.out
        rw [show s.data.toList.drop k = [] from List.drop_eq_nil_of_le (by simp; omega)] at a
        simp only [runT] at a
        omega
      subst e
      clear H HN
      go_wp2_with fail
      go_quiet (fail)
      go_wp2
      go_ret2
      exact ⟨rfl, bdN (Below.refl _ _) _⟩
set_option maxHeartbeats 1000000 in
theorem cut_letter (s : ByteArray) (w : World) (hs : s.size ≤ maxLen) : Calls Tryd.prog 24 #[.string s, .func (.func 40) #[] #[]] w fun e w' => e = .returned (.tuple #[.string (s.extract 0 (cutN letT s)), .string (s.extract (cutN letT s) s.size)]) ∧ Below w.heap.size w w' := by
  have hm : s.size ≤ 9223372036854775807 := hs
  have hle := cutN_le letT s
  generalize hn : cutN letT s = N at *
  have HN : Hid (N = runT letT s.data.toList) := hn.symm
  clear hn
  go_enter Tryd.func24, Tryd.ntmps24
  go_wp2_with fail
  go_loop [6] (fun v => ∃ k : Nat, k ≤ s.size ∧ v = .int .i64 k ∧ Hid (N = k + runT letT (s.data.toList.drop k))) (fun v => s.size - (intOf v).toNat)
  case atStart => exact ⟨0, Nat.zero_le _, rfl, by show _ = _; rw [HN.out]; simp⟩
  case round =>
    obtain ⟨k, h2, rfl, H⟩ := hrel
    by_cases hlt : k < s.size
    · have HD : Hid _ := runT_drop letT s k hlt
      cases c : letT (s[k].toNat : Int)
      · have C : Hid (letT (s[k].toNat : Int) = false) := c
        clear c
        have e : k = N := by
          have a := H.out
          have b := HD.out
          rw [C.out] at b
          simp only [Bool.false_eq_true, if_false] at b
          omega
        subst e
        clear H HD HN
        go_wp2_with (go_at_call 40; refine (isLetterT_of _ _).mono ?_; rintro e w1 ⟨rfl, rfl⟩; rw [C.out])
        go_quiet (fail)
        go_wp2
        go_ret2
        exact ⟨rfl, bdN (Below.refl _ _) _⟩
      · have C : Hid (letT (s[k].toNat : Int) = true) := c
        clear c
        go_wp2_with (go_at_call 40; refine (isLetterT_of _ _).mono ?_; rintro e w1 ⟨rfl, rfl⟩; rw [C.out])
        go_round
        case rel =>
          refine ⟨k + 1, by omega, by go_num, ?_⟩
          have a := H.out
          have b := HD.out
          rw [C.out] at b
          simp only [if_true] at b
          show _ = _
          omega
        case measure => simp [intOf]; omega
    · have e : k = N := by
        have a := H.out
        rw [show s.data.toList.drop k = [] from List.drop_eq_nil_of_le (by simp; omega)] at a
        simp only [runT] at a
        omega
      subst e
      clear H HN
      go_wp2_with fail
      go_quiet (fail)
      go_wp2
      go_ret2
      exact ⟨rfl, bdN (Below.refl _ _) _⟩
end Go.Proofs.YtpdnlojennhmpaaDoor
