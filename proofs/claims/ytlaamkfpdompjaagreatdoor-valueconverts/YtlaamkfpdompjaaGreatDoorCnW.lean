/- The document's whole, of every finite float; no statement of the seat is proved here. -/
import Derived.Test.YtlaamkfpdompjaaGreatDoorFlR
import Derived.Test.YtlaamkfpdompjaaGreatDoorRows
import Derived.WalkKit
import Derived.WalkSpells
import Derived.WalkLawsBesides
import Derived.Handy
import Derived.Laws.Bits64b
import Derived.Deep.QuietTactic
import Derived.BigQuiet
import Derived.Test.YtlaamkfpdompjaaGreatDoorFlS
namespace Go.Proofs.YtlaamkfpdompjaaGreatDoor
set_option linter.unusedVariables false
open Go.RowKit
theorem andE (b : Nat) (h : b < 18446744073709551616) : bits BinOp.and IntKind.u64 ((b : Int) / 4503599627370496) 2047 = ((b / 4503599627370496 % 2048 : Nat) : Int) := by
  have e := bits_and_u64_nat (b / 4503599627370496) 2047 (by omega) (by omega)
  have : b / 4503599627370496 &&& 2047 = b / 4503599627370496 % 2048 := Nat.and_two_pow_sub_one_eq_mod _ 11
  rw [this] at e
  simpa using e
theorem andF (b : Nat) (h : b < 18446744073709551616) : bits BinOp.and IntKind.u64 (b : Int) 4503599627370495 = ((b % 4503599627370496 : Nat) : Int) := by
  have e := bits_and_u64_nat b 4503599627370495 h (by omega)
  have : b &&& 4503599627370495 = b % 4503599627370496 := Nat.and_two_pow_sub_one_eq_mod _ 52
  rw [this] at e
  simpa using e
set_option maxRecDepth 100000 in
set_option maxHeartbeats 1000000 in
theorem wholeR_0 (b : Nat) (h : b < 18446744073709551616) (z : b / 4503599627370496 % 2048 = 0) (w : World) :
    Calls Tryz.prog 38 #[.int .u64 b] w fun e w' => e = .returned (.tuple #[.int .u64 (whN b : Int), .bool (b / 9223372036854775808 == 1), .bool true]) ∧ w' = w := by
  have aE := andE b h
  have aF := andF b h
  have wz : whN b = 0 := by unfold whN; rw [if_pos z]
  have sb : (((b : Int) / 9223372036854775808) == 1) = (b / 9223372036854775808 == 1) := by
    rw [Bool.eq_iff_iff]; simp; omega
  rw [z] at aE
  rw [wz]
  generalize (b / 9223372036854775808 == 1) = s at *
  go_enter Tryz.func38, Tryz.ntmps38
  go_wp2
  exact bodyPost_ret (v := .tuple #[.int .u64 0, .bool s, .bool true]) (by simp [results, Tryz.results38, go_sem]) rfl ⟨rfl, rfl⟩
end Go.Proofs.YtlaamkfpdompjaaGreatDoor
namespace Go.Proofs.YtlaamkfpdompjaaGreatDoor
set_option linter.unusedVariables false
open Go.RowKit
theorem orM (F : Nat) (h : F < 4503599627370496) : bits BinOp.or IntKind.u64 (F : Int) 4503599627370496 = ((4503599627370496 + F : Nat) : Int) := by
  have e := bits_or_u64_nat F 4503599627370496 (by omega) (by omega)
  have : F ||| 4503599627370496 = 4503599627370496 + F := by
    have := Nat.two_pow_add_eq_or_of_lt (i := 52) (b := F) (by simpa using h) 1
    simp at this
    rw [Nat.or_comm]
    omega
  rw [this] at e
  simpa using e
set_option maxRecDepth 100000 in
set_option maxHeartbeats 1000000 in
theorem wholeR_far (b : Nat) (h : b < 18446744073709551616) (z : ¬ b / 4503599627370496 % 2048 = 0) (f : 54 < 1075 - b / 4503599627370496 % 2048) (w : World) :
    Calls Tryz.prog 38 #[.int .u64 b] w fun e w' => e = .returned (.tuple #[.int .u64 (whN b : Int), .bool (b / 9223372036854775808 == 1), .bool true]) ∧ w' = w := by
  have aE := andE b h
  have aF := andF b h
  have wz : whN b = 0 := by unfold whN; rw [if_neg z, if_neg (by omega), if_pos f]
  have sb : (((b : Int) / 9223372036854775808) == 1) = (b / 9223372036854775808 == 1) := by
    rw [Bool.eq_iff_iff]; simp; omega
  rw [wz]
  have Fb : b % 4503599627370496 < 4503599627370496 := Nat.mod_lt _ (by omega)
  have oM := orM _ Fb
  generalize (b / 9223372036854775808 == 1) = s at *
  generalize b / 4503599627370496 % 2048 = E at *
  generalize b % 4503599627370496 = F at *
  have d1 : ((E : Int) - 1075 == -1075) = false := by simp; omega
  have d2 : ¬ (0 : Int) ≤ (E : Int) - 1075 := by omega
  have d3 : (54 : Int) < -((E : Int) - 1075) := by omega
  clear z
  go_enter Tryz.func38, Tryz.ntmps38
  go_wp2
  exact bodyPost_ret (v := .tuple #[.int .u64 0, .bool s, .bool true]) (by simp [results, Tryz.results38, go_sem]) rfl ⟨rfl, rfl⟩
end Go.Proofs.YtlaamkfpdompjaaGreatDoor
namespace Go.Proofs.YtlaamkfpdompjaaGreatDoor
set_option linter.unusedVariables false
open Go.RowKit
set_option maxRecDepth 100000 in
set_option maxHeartbeats 4000000 in
theorem wholeR_hi (b : Nat) (h : b < 18446744073709551616) (c : 1075 ≤ b / 4503599627370496 % 2048) (f : b / 4503599627370496 % 2048 ≤ 1086) (w : World) :
    Calls Tryz.prog 38 #[.int .u64 b] w fun e w' => e = .returned (.tuple #[.int .u64 (whN b : Int), .bool (b / 9223372036854775808 == 1), .bool true]) ∧ w' = w := by
  have aE := andE b h
  have aF := andF b h
  have wz : whN b = (4503599627370496 + b % 4503599627370496) * 2 ^ (b / 4503599627370496 % 2048 - 1075) := by unfold whN; rw [if_neg (by omega), if_pos c]
  have sb : (((b : Int) / 9223372036854775808) == 1) = (b / 9223372036854775808 == 1) := by
    rw [Bool.eq_iff_iff]; simp; omega
  rw [wz]
  have Fb : b % 4503599627370496 < 4503599627370496 := Nat.mod_lt _ (by omega)
  have oM := orM _ Fb
  generalize (b / 9223372036854775808 == 1) = s at *
  generalize b / 4503599627370496 % 2048 = E at *
  generalize b % 4503599627370496 = F at *
  clear wz
  rcases (by omega : E = 1075 ∨ E = 1076 ∨ E = 1077 ∨ E = 1078 ∨ E = 1079 ∨ E = 1080 ∨ E = 1081 ∨ E = 1082 ∨ E = 1083 ∨ E = 1084 ∨ E = 1085 ∨ E = 1086) with rfl | rfl | rfl | rfl | rfl | rfl | rfl | rfl | rfl | rfl | rfl | rfl
  all_goals
    go_enter Tryz.func38, Tryz.ntmps38
    go_wp2
    exact bodyPost_ret (v := .tuple #[.int .u64 _, .bool s, .bool true]) (by simp [results, Tryz.results38, go_sem] <;> omega) rfl ⟨rfl, rfl⟩
end Go.Proofs.YtlaamkfpdompjaaGreatDoor
namespace Go.Proofs.YtlaamkfpdompjaaGreatDoor
set_option linter.unusedVariables false
open Go.RowKit
theorem and1 (q : Nat) (h : q < 18446744073709551616) : bits BinOp.and IntKind.u64 (q : Int) 1 = ((q % 2 : Nat) : Int) := by
  have e := bits_and_u64_nat q 1 h (by omega)
  have : q &&& 1 = q % 2 := Nat.and_two_pow_sub_one_eq_mod _ 1
  rw [this] at e
  simpa using e
theorem andT (M t : Nat) (hM : M < 18446744073709551616) (ht : t ≤ 54) : bits BinOp.and IntKind.u64 (M : Int) (IntKind.u64.wrap (IntKind.u64.wrap (2 ^ t) - 1)) = ((M % 2 ^ t : Nat) : Int) := by
  have p : 1 ≤ 2 ^ t := Nat.pow_pos (by omega)
  have q : 2 ^ t ≤ 2 ^ 54 := Nat.pow_le_pow_right (by omega) ht
  have q' : (2 : Nat) ^ 54 = 18014398509481984 := by decide
  have c : ((2 : Int) ^ t) = ((2 ^ t : Nat) : Int) := by simp
  have e : IntKind.u64.wrap (IntKind.u64.wrap (2 ^ t) - 1) = ((2 ^ t - 1 : Nat) : Int) := by
    rw [c, IntKind.wrap_u64, IntKind.wrap_u64]
    omega
  rw [e]
  have b := bits_and_u64_nat M (2 ^ t - 1) hM (by omega)
  rw [Nat.and_two_pow_sub_one_eq_mod] at b
  exact b
theorem wrapH (t : Nat) (ht : t ≤ 54) : IntKind.u64.wrap (2 ^ t) = ((2 ^ t : Nat) : Int) := by
  have q : 2 ^ t ≤ 2 ^ 54 := Nat.pow_le_pow_right (by omega) ht
  have q' : (2 : Nat) ^ 54 = 18014398509481984 := by decide
  have p : 0 < 2 ^ t := Nat.pow_pos (by omega)
  have c : ((2 : Int) ^ t) = ((2 ^ t : Nat) : Int) := by simp
  rw [c, IntKind.wrap_u64]
  generalize 2 ^ t = z at *
  omega
theorem below_drew (w : World) (n : Nat) : Below w.heap.size w (w.drewN n) := ⟨rfl, rfl, rfl, Nat.le_refl _, fun _ _ => rfl⟩
set_option maxRecDepth 100000 in
set_option maxHeartbeats 4000000 in
theorem whole_mid (F t : Nat) (Fb : F < 4503599627370496) (t0 : 1 ≤ t) (t1 : t ≤ 54) (b : Nat) (s : Bool) (w : World) 
    (aE : bits BinOp.and IntKind.u64 ((b : Int) / 4503599627370496) 2047 = 1075 - (t : Int))
    (aF : bits BinOp.and IntKind.u64 (b : Int) 4503599627370495 = (F : Int))
    (sb : (((b : Int) / 9223372036854775808) == 1) = s) :
    Calls Tryz.prog 38 #[.int .u64 b] w fun e w' => e = .returned (.tuple #[.int .u64 (rhe (4503599627370496 + F) t : Nat), .bool s, .bool true]) ∧ Below w.heap.size w w' := by
  have oM := orM _ Fb
  have d1 : (1075 - (t : Int) - 1075 == -1075) = false := by simp; omega
  have d0 : 1075 - (t : Int) - 1075 = - t := by omega
  have d2 : ¬ (0 : Int) ≤ - t := by omega
  obtain ⟨Q, hq⟩ : ∃ Q, (4503599627370496 + F) / 2 ^ t = Q := ⟨_, rfl⟩
  obtain ⟨R, hr⟩ : ∃ R, (4503599627370496 + F) % 2 ^ t = R := ⟨_, rfl⟩
  obtain ⟨H, hh⟩ : ∃ H, 2 ^ (t - 1) = H := ⟨_, rfl⟩
  have h2 : 2 ^ t = 2 * H := by rw [← hh]; obtain ⟨u, rfl⟩ : ∃ u, t = u + 1 := ⟨t - 1, by omega⟩; rw [Nat.pow_succ]; simp; omega
  have e1 : (4503599627370496 + (F : Int)) / 2 ^ t = (Q : Int) := by rw [← hq]; simp
  have e2 : bits BinOp.and IntKind.u64 (4503599627370496 + (F : Int)) (IntKind.u64.wrap (IntKind.u64.wrap (2 ^ t) - 1)) = (R : Int) := by
    have := andT (4503599627370496 + F) t (by omega) t1
    rw [hr] at this
    simpa using this
  have e3 : IntKind.u64.wrap (2 ^ (t - 1)) = (H : Int) := by rw [wrapH (t - 1) (by omega), hh]
  have Qb : Q ≤ 4503599627370496 + F := by rw [← hq]; exact Nat.div_le_self _ _
  have e4 : bits BinOp.and IntKind.u64 (Q : Int) 1 = ((Q % 2 : Nat) : Int) := and1 Q (by omega)
  have RH : Hid (rhe (4503599627370496 + F) t = Q + (if H < R ∨ R = H ∧ Q % 2 = 1 then 1 else 0)) := by
    show _ = _
    unfold rhe
    rw [hq, hr, h2]
    congr 1
    by_cases c : H < R ∨ R = H ∧ Q % 2 = 1
    · rw [if_pos c, if_pos (by omega)]
    · rw [if_neg c, if_neg (by omega)]
  clear hq hr hh h2
  rw [RH.out]
  by_cases c1 : H < R
  · have c1' : (H : Int) < R := by omega
    rw [if_pos (Or.inl c1)]
    clear c1 RH
    go_enter Tryz.func38, Tryz.ntmps38
    go_wp2_with fail
    go_quiet (fail)
    go_wp2
    exact bodyPost_ret (v := .tuple #[.int .u64 ((Q + 1 : Nat) : Int), .bool s, .bool true]) (by simp [results, Tryz.results38, go_sem]) rfl ⟨rfl, below_drew _ _⟩
  · by_cases c2 : R = H ∧ Q % 2 = 1
    · obtain ⟨c2, c3⟩ := c2
      subst c2
      rw [if_pos (Or.inr ⟨rfl, c3⟩)]
      rw [c3] at e4
      clear RH
      go_enter Tryz.func38, Tryz.ntmps38
      go_wp2_with fail
      go_quiet (fail)
      go_wp2
      exact bodyPost_ret (v := .tuple #[.int .u64 ((Q + 1 : Nat) : Int), .bool s, .bool true]) (by simp [results, Tryz.results38, go_sem]) rfl ⟨rfl, below_drew _ _⟩
    · rw [if_neg (by omega)]
      by_cases c4 : R = H
      · subst c4
        have c5 : Q % 2 = 0 := by omega
        rw [c5] at e4
        clear RH
        go_enter Tryz.func38, Tryz.ntmps38
        go_wp2_with fail
        go_quiet (fail)
        go_wp2
        exact bodyPost_ret (v := .tuple #[.int .u64 (Q : Int), .bool s, .bool true]) (by simp [results, Tryz.results38, go_sem]) rfl ⟨rfl, below_drew _ _⟩
      · have c5 : ((R : Int) == (H : Int)) = false := by simp; omega
        have c6 : ¬ (H : Int) < R := by omega
        clear RH
        go_enter Tryz.func38, Tryz.ntmps38
        go_wp2_with fail
        go_quiet (fail)
        go_wp2
        exact bodyPost_ret (v := .tuple #[.int .u64 (Q : Int), .bool s, .bool true]) (by simp [results, Tryz.results38, go_sem]) rfl ⟨rfl, below_drew _ _⟩
set_option maxRecDepth 100000 in
set_option maxHeartbeats 4000000 in
theorem whole_big (F t : Nat) (Fb : F < 4503599627370496) (t0 : 12 ≤ t) (t1 : t ≤ 972) (b : Nat) (s : Bool) (w : World) 
    (aE : bits BinOp.and IntKind.u64 ((b : Int) / 4503599627370496) 2047 = 1075 + (t : Int))
    (aF : bits BinOp.and IntKind.u64 (b : Int) 4503599627370495 = (F : Int))
    (sb : (((b : Int) / 9223372036854775808) == 1) = s) :
    Calls Tryz.prog 38 #[.int .u64 b] w fun e w' => (∃ n : Int, e = .returned (.tuple #[.int .u64 n, .bool s, .bool false])) ∧ Below w.heap.size w w' := by
  have oM := orM _ Fb
  have d1 : (1075 + (t : Int) - 1075 == -1075) = false := by simp; omega
  have d0 : 1075 + (t : Int) - 1075 = t := by omega
  have d3 : ¬ (t : Int) ≤ 11 := by omega
  by_cases c : t ≤ 63
  · go_enter Tryz.func38, Tryz.ntmps38
    go_wp2
    exact bodyPost_ret (v := .tuple #[.int .u64 (IntKind.u64.wrap ((4503599627370496 + ↑F) * 2 ^ t)), .bool s, .bool false]) (by simp [results, Tryz.results38, go_sem]) rfl ⟨⟨_, rfl⟩, Below.refl _ _⟩
  · have c' : ¬ (t : Int) ≤ 63 := by omega
    go_enter Tryz.func38, Tryz.ntmps38
    go_wp2
    exact bodyPost_ret (v := .tuple #[.int .u64 (IntKind.u64.wrap ((4503599627370496 + ↑F) * 9223372036854775808)), .bool s, .bool false]) (by simp [results, Tryz.results38, go_sem]) rfl ⟨⟨_, rfl⟩, Below.refl _ _⟩
end Go.Proofs.YtlaamkfpdompjaaGreatDoor
namespace Go.Proofs.YtlaamkfpdompjaaGreatDoor
set_option linter.unusedVariables false
open Go.RowKit
theorem wh_small (b : Nat) (h : b / 4503599627370496 % 2048 ≤ 1086) : whN b < 18446744073709551616 := by
  unfold whN
  have Fb : b % 4503599627370496 < 4503599627370496 := Nat.mod_lt _ (by omega)
  generalize b / 4503599627370496 % 2048 = E at *
  generalize b % 4503599627370496 = F at *
  split
  · omega
  · split
    · have p : 2 ^ (E - 1075) ≤ 2 ^ 11 := Nat.pow_le_pow_right (by omega) (by omega)
      have p' : (2 : Nat) ^ 11 = 2048 := by decide
      have : (4503599627370496 + F) * 2 ^ (E - 1075) ≤ (4503599627370496 + F) * 2048 := Nat.mul_le_mul_left _ (by omega)
      omega
    · split
      · omega
      · unfold rhe
        have := Nat.div_le_self (4503599627370496 + F) (2 ^ (1075 - E))
        split <;> omega
theorem wh_great (b : Nat) (h : 1086 < b / 4503599627370496 % 2048) : 18446744073709551616 ≤ whN b := by
  unfold whN
  generalize b / 4503599627370496 % 2048 = E at *
  generalize b % 4503599627370496 = F at *
  rw [if_neg (by omega), if_pos (by omega)]
  have p : 2 ^ 12 ≤ 2 ^ (E - 1075) := Nat.pow_le_pow_right (by omega) (by omega)
  have p' : (2 : Nat) ^ 12 = 4096 := by decide
  have : (4503599627370496 + F) * 4096 ≤ (4503599627370496 + F) * 2 ^ (E - 1075) := Nat.mul_le_mul_left _ (by omega)
  omega
theorem same_below {w w' : World} (h : w' = w) : Below w.heap.size w w' := by subst h; exact Below.refl _ _
theorem wholeR_yes (b : Nat) (h : b < 18446744073709551616) (g : whN b < 18446744073709551616) (w : World) :
    Calls Tryz.prog 38 #[.int .u64 b] w fun e w' => e = .returned (.tuple #[.int .u64 (whN b : Int), .bool (b / 9223372036854775808 == 1), .bool true]) ∧ Below w.heap.size w w' := by
  have e86 : b / 4503599627370496 % 2048 ≤ 1086 := by
    apply Classical.byContradiction
    intro q
    have := wh_great b (by omega)
    omega
  by_cases c0 : b / 4503599627370496 % 2048 = 0
  · exact (wholeR_0 b h c0 w).mono fun e w' q => ⟨q.1, same_below q.2⟩
  by_cases c1 : 54 < 1075 - b / 4503599627370496 % 2048
  · exact (wholeR_far b h c0 c1 w).mono fun e w' q => ⟨q.1, same_below q.2⟩
  by_cases c2 : 1075 ≤ b / 4503599627370496 % 2048
  · exact (wholeR_hi b h c2 e86 w).mono fun e w' q => ⟨q.1, same_below q.2⟩
  have wz : whN b = rhe (4503599627370496 + b % 4503599627370496) (1075 - b / 4503599627370496 % 2048) := by
    unfold whN
    rw [if_neg c0, if_neg c2, if_neg c1]
  rw [wz]
  have Fb : b % 4503599627370496 < 4503599627370496 := Nat.mod_lt _ (by omega)
  refine whole_mid (b % 4503599627370496) (1075 - b / 4503599627370496 % 2048) Fb (by omega) (by omega) b _ w ?_ (andF b h) ?_
  · rw [andE b h]; omega
  · rw [Bool.eq_iff_iff]; simp; omega
theorem wholeR_no (b : Nat) (h : b < 18446744073709551616) (f : finB b = true) (g : 18446744073709551616 ≤ whN b) (w : World) :
    Calls Tryz.prog 38 #[.int .u64 b] w fun e w' => (∃ n : Int, e = .returned (.tuple #[.int .u64 n, .bool (b / 9223372036854775808 == 1), .bool false])) ∧ Below w.heap.size w w' := by
  have e86 : 1086 < b / 4503599627370496 % 2048 := by
    apply Classical.byContradiction
    intro q
    have := wh_small b (by omega)
    omega
  have ff := (fin_iff b).1 f
  have Fb : b % 4503599627370496 < 4503599627370496 := Nat.mod_lt _ (by omega)
  refine whole_big (b % 4503599627370496) (b / 4503599627370496 % 2048 - 1075) Fb (by omega) (by omega) b _ w ?_ (andF b h) ?_
  · rw [andE b h]; omega
  · rw [Bool.eq_iff_iff]; simp; omega
theorem andI (b : Nat) (h : b < 18446744073709551616) : bits BinOp.and IntKind.u64 (b : Int) 9218868437227405312 = ((b / 4503599627370496 % 2048 * 4503599627370496 : Nat) : Int) := by
  have e := bits_and_u64_nat b 9218868437227405312 h (by omega)
  have d : (b &&& 9218868437227405312) / 2 ^ 52 = b / 4503599627370496 % 2048 := by
    have := Nat.shiftRight_and_distrib (a := b) (b := 9218868437227405312) (i := 52)
    rw [Nat.shiftRight_eq_div_pow, Nat.shiftRight_eq_div_pow, Nat.shiftRight_eq_div_pow] at this
    rw [this]
    exact Nat.and_two_pow_sub_one_eq_mod _ 11
  have r : (b &&& 9218868437227405312) % 2 ^ 52 = 0 := by
    rw [Nat.and_mod_two_pow]
    simp
  have : b &&& 9218868437227405312 = b / 4503599627370496 % 2048 * 4503599627370496 := by
    have p' : (2 : Nat) ^ 52 = 4503599627370496 := by decide
    rw [p'] at d r
    omega
  rw [this] at e
  exact e
end Go.Proofs.YtlaamkfpdompjaaGreatDoor
