/- The document's 'address' where its letters stand; no statement of the seat is proved here. -/
import Derived.Test.YtdcjngakmkgbmaaGreatKoA9
import Derived.Deep.DeepCutAuto
namespace Go.Proofs.YtdcjngakmkgbmaaGreat
set_option linter.unusedVariables false
open Go.RowKit
/-- 1, if such a byte may stand in a name. -/
def nI (c : Int) : Int := if namB c = true then 1 else 0
theorem nI_t (c : Int) : (namB c = true) = (nI c = 1) := by
  unfold nI
  cases namB c <;> simp
theorem nI_f (c : Int) : (namB c = false) = (nI c = 0) := by
  unfold nI
  cases namB c <;> simp
/-- What follows behind the letters: d digits. -/
def tailR (s : ByteArray) (x2 : Int) (d : Nat) : Int :=
  if 1 ≤ d ∧ d ≤ 4 ∧ ¬ (1 < d ∧ byt s 3 = 48) then
    if x2 = 88 then
      if byt s (3 + d) = 46 ∧ 48 ≤ byt s (3 + d + 1) ∧ byt s (3 + d + 1) ≤ 55 then if 3 + d + 2 < s.size ∧ nI (byt s (3 + d + 2)) = 1 then -1 else 3 + d + 2 else -1
    else if 3 + d < s.size ∧ nI (byt s (3 + d)) = 1 then -1 else 3 + d
  else -1
theorem byt_cases (s : ByteArray) (i : Nat) : (∃ h : i < s.size, byt s i = s[i].toNat ∧ nI (byt s i) = nI (s[i].toNat : Int)) ∨ (s.size ≤ i ∧ byt s i = 0) := by
  rcases Nat.lt_or_ge i s.size with q | q
  · exact Or.inl ⟨q, byt_in s i q, by rw [byt_in s i q]⟩
  · exact Or.inr ⟨q, byt_out s i q⟩
set_option maxRecDepth 100000 in
set_option maxHeartbeats 4000000 in
theorem addressR_yes (s p : ByteArray) (w : World) (hs : s.size ≤ maxLen) (hz : 3 < s.size) (Q : Hid (s.extract 0 3 = p)) (P : Hid (capS p = p)) (ps : p.size = 3) (pm : p.size ≤ maxLen)
    (h1 : (p[1].toNat : Int) = 73 ∨ (p[1].toNat : Int) = 81 ∨ (p[1].toNat : Int) = 77) (h2 : (p[2].toNat : Int) = 88 ∨ (p[2].toNat : Int) = 66 ∨ (p[2].toNat : Int) = 87 ∨ (p[2].toNat : Int) = 68 ∨ (p[2].toNat : Int) = 76)
    (r : Int) (R : Hid (tailR s (p[2].toNat : Int) (digN s) = r)) :
    Calls Tryz.prog 114 #[.string s, .int .i64 0] w fun e w' => e = .returned (.int .i64 r) ∧ Below w.heap.size w w' := by
  have hm : s.size ≤ 9223372036854775807 := hs
  have hd := digN_le s (by omega)
  go_enter Tryz.func114, Tryz.ntmps114
  go_upto_region 2 with (go_at_call 113; rw [Q.out]; refine (Upper_of p _ pm).mono ?_; rintro e w1 ⟨rfl, hB⟩; rw [P.out])
  have B : Hid (Below w.heap.size w w1) := hB
  clear hB
  go_cut [59] (fun s59 wx => s59 = .bool false ∧ wx = w1)
  case first =>
    rcases h1 with h1 | h1 | h1 <;> rcases h2 with h2 | h2 | h2 | h2 | h2
    all_goals (go_wp2_with fail; go_meet; exact ⟨rfl, rfl⟩)
  case rest =>
  obtain ⟨rfl, rfl⟩ := hcut
  clear h1
  have h2' : Hid _ := h2
  clear h2
  go_wp2_with fail
  go_loop [7] (fun v => ∃ k : Nat, k ≤ digN s ∧ v = .int .i64 ((3 + k : Nat) : Int) ∧ Hid (digN s = k + runL digB (s.data.toList.drop (3 + k)))) (fun v => s.size - (intOf v).toNat)
  case atStart => exact ⟨0, Nat.zero_le _, rfl, by show _ = _; simp [digN]⟩
  case round =>
    obtain ⟨k, hk, rfl, H⟩ := hrel
    by_cases hlt : 3 + k < s.size
    · have HD : Hid _ := runL_drop digB s (3 + k) hlt
      cases c : digB (s[3 + k].toNat : Int)
      · have C : Hid (digB (s[3 + k].toNat : Int) = false) := c
        clear c
        have e : k = digN s := by
          have a := H.out
          have b := HD.out
          rw [C.out] at b
          simp only [Bool.false_eq_true, if_false] at b
          omega
        clear HD H
        subst e
        generalize digN s = d at *
        go_wp2_with (first
          | (go_at_call 110; refine (digitR_of _ _).mono ?_; rintro e w2 ⟨rfl, rfl⟩; rw [C.out])
          | (go_at_call 78; refine (innerR_of _ _).mono ?_; rintro e w2 ⟨rfl, rfl⟩))
        all_goals
          go_returns
          refine ⟨ret_int ?_, B.out⟩
          rw [← R.out]
          go_light
          clear C
          try simp only [beq_iff_eq, beq_eq_false_iff_ne] at *
          try simp only [nI_t, nI_f] at *
          have B3 : byt s 3 = s[3].toNat := byt_in s 3 hz
          unfold tailR
          rcases byt_cases s (3 + d) with ⟨q0, B4, N4⟩ | ⟨q0, B4⟩ <;> rcases byt_cases s (3 + d + 1) with ⟨q1, B5, N5⟩ | ⟨q1, B5⟩ <;> rcases byt_cases s (3 + d + 2) with ⟨q2, B6, N6⟩ | ⟨q2, B6⟩
          all_goals first | (exfalso; omega) | (repeat' split; all_goals omega)
      · have C : Hid (digB (s[3 + k].toNat : Int) = true) := c
        clear c
        go_wp2_with (go_at_call 110; refine (digitR_of _ _).mono ?_; rintro e w2 ⟨rfl, rfl⟩; rw [C.out])
        go_round
        case rel =>
          have a := H.out
          have b := HD.out
          rw [C.out] at b
          simp only [if_true] at b
          refine ⟨k + 1, by omega, by go_num, ?_⟩
          show _ = _
          rw [show 3 + (k + 1) = 3 + k + 1 by omega]
          omega
        case measure => simp [intOf]; omega
    · have e : k = digN s := by omega
      clear H
      subst e
      generalize digN s = d at *
      go_wp2_with (go_at_call 78; refine (innerR_of _ _).mono ?_; rintro e w2 ⟨rfl, rfl⟩)
      all_goals
        go_returns
        refine ⟨ret_int ?_, B.out⟩
        rw [← R.out]
        go_light
        try simp only [beq_iff_eq, beq_eq_false_iff_ne] at *
        try simp only [nI_t, nI_f] at *
        have B3 : byt s 3 = s[3].toNat := byt_in s 3 hz
        unfold tailR
        rcases byt_cases s (3 + d) with ⟨q0, B4, N4⟩ | ⟨q0, B4⟩ <;> rcases byt_cases s (3 + d + 1) with ⟨q1, B5, N5⟩ | ⟨q1, B5⟩ <;> rcases byt_cases s (3 + d + 2) with ⟨q2, B6, N6⟩ | ⟨q2, B6⟩
        all_goals first | (exfalso; omega) | (repeat' split; all_goals omega)
end Go.Proofs.YtdcjngakmkgbmaaGreat
