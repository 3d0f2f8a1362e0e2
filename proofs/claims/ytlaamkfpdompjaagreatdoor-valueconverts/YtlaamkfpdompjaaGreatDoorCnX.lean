/- value.Convert, exactly, of every kind and value; no statement of the seat is proved here. -/
import Derived.Test.YtlaamkfpdompjaaGreatDoorCvE
import Derived.Test.YtlaamkfpdompjaaGreatDoorFlS
import Derived.Test.YtlaamkfpdompjaaGreatDoorRdS
import Derived.Laws.BitsAllLaws
import Derived.Test.YtlaamkfpdompjaaGreatDoorBkC
namespace Go.Proofs.YtlaamkfpdompjaaGreatDoor
set_option linter.unusedVariables false
open Go.RowKit
theorem abs_is (n : Nat) (h : n < 18446744073709551616) : (bits BinOp.andNot IntKind.u64 (n : Int) 9223372036854775808).toNat = n % 9223372036854775808 := by
  have e := u64_andNot_nat n 9223372036854775808 h (by omega)
  have : n &&& (18446744073709551615 - 9223372036854775808) = n % 9223372036854775808 := Nat.and_two_pow_sub_one_eq_mod n 63
  rw [this] at e
  have : ((9223372036854775808 : Nat) : Int) = 9223372036854775808 := rfl
  rw [this] at e
  rw [e]
  exact Int.toNat_natCast _
theorem rte_fin (x : Nat) (h : finB x = true) : rte x = (if (x / 9223372036854775808 % 2 == 1) = true then 9223372036854775808 + rg (whN x) else rg (whN x)) := by
  have e := enc_wh x ((fin_iff x).1 h)
  obtain ⟨m, p, r, _, _⟩ := read_fin x h
  have r' : FloatKind.f64.decode x = .number (x / 9223372036854775808 % 2 == 1) m p := r
  unfold rte
  rw [r'] at e ⊢
  exact e
theorem rte_inf (x : Nat) (h : finB x = false) (n : fnan x = false) : rte x = (if (x / 9223372036854775808 % 2 == 1) = true then 9223372036854775808 + 9218868437227405312 else 9218868437227405312) := by
  have e := int_inf x h n
  have d : FloatKind.f64.decode x = .infinity (x / 9223372036854775808 % 2 == 1) := by
    cases q : FloatKind.f64.decode x with
    | number s m p => rw [q] at e; cases e
    | infinity s => rw [q] at e; exact e
    | nan s t => rw [q] at e; cases e
  unfold rte
  rw [d]
  show Ieee.double.word _ Ieee.double.infRung = _
  have e4 : Ieee.double.infRung = 9218868437227405312 := by decide
  have e1 : Ieee.double.signWeight = 9223372036854775808 := by decide
  unfold Ieee.Format.word
  rw [e4, e1]
theorem absr_fin (x : Nat) (h : finB x = true) : (bits BinOp.andNot IntKind.u64 (rte x : Int) 9223372036854775808).toNat = rg (whN x) := by
  have b := rg_bd (rep_wh x ((fin_iff x).1 h))
  have e := rte_fin x h
  rw [abs_is _ (by rw [e]; split <;> omega), e]
  split <;> omega
theorem absr_inf (x : Nat) (h : finB x = false) (n : fnan x = false) : (bits BinOp.andNot IntKind.u64 (rte x : Int) 9223372036854775808).toNat = 9218868437227405312 := by
  have e := rte_inf x h n
  rw [abs_is _ (by rw [e]; split <;> omega), e]
  split <;> omega
theorem ord_top : FloatKind.f64.format.order 9218868437227405312 4895412794951729152 = some .gt := by decide
theorem sgn_fl (x : Nat) (h : finB x = true) : sgn (FloatKind.f64.format.order x 0 == some Ordering.lt) (whN x : Int) = flN x := by
  rw [ord_lt x h]
  unfold sgn flN
  by_cases z : x % 9223372036854775808 = 0
  · have w0 : whN x = 0 := by unfold whN; rw [if_pos (by omega)]
    rw [w0]
    simp
  · have e : (x % 9223372036854775808 == 0) = false := by simpa using z
    rw [e]
    simp
/-- What a float rounds to, if there is room. -/
def rnF (x : Nat) : Value := if finB x = true ∧ whN x < 18446744073709551616 then .tuple #[NB (flN x), .bool true] else .tuple #[NB 0, .bool false]
set_option maxRecDepth 100000 in
set_option maxHeartbeats 1000000 in
theorem rounded_yes (x : Nat) (h : finB x = true) (g : whN x < 18446744073709551616) (cm : calm x) (w : World) : Calls Tryz.prog 27 #[.float .f64 x] w fun e w' => e = .returned (.tuple #[NB (flN x), .bool true]) ∧ Below w.heap.size w w' := by
  have hr := call_round x cm
  have R := rep_wh x ((fin_iff x).1 h)
  have ab := absr_fin x h
  have c1 := nan_fin x h
  have o := (order_rg R).1 g
  have hcv : ∀ w, (convert 33 23 (.float .f64 (rg (whN x)))).run Tryz.prog w = .ok (.int .u64 (whN x : Int)) w := fun w => run_convert_float_int w 33 23 .f64 .u64 (rg (whN x)) (whN x : Int) (by rw [Tryz.underlying33]; rfl) Tryz.underlying23 (val_rg R g)
  have c2 : (FloatKind.f64.format.order (rg (whN x)) 4895412794951729152 == some Ordering.gt) = false := by rw [o]; rfl
  have c3 : (FloatKind.f64.format.order (rg (whN x)) 4895412794951729152 == some Ordering.eq) = false := by rw [o]; rfl
  have SG : Hid _ := sgn_fl x h
  have AB : Hid ((bits BinOp.andNot IntKind.u64 (rte x : Int) 9223372036854775808).toNat = rg (whN x)) := ab
  have m0 : (0 : Int) ≤ (whN x : Int) := by omega
  clear R h g cm ab o
  generalize rg (whN x) = r at *
  generalize whN x = m at *
  go_enter Tryz.func27, Tryz.ntmps27
  go_wp2_with (first
    | (go_at_call 50; refine (Abs_of _ _).mono ?_; rw [AB.out]; rintro e w' ⟨rfl, rfl⟩)
    | (go_at_call 23; refine (IsNaN_of _ _).mono ?_; rintro e w' ⟨rfl, rfl⟩)
    | (go_at_call 52; refine (signed_of _ _ _ m0).mono ?_; rw [SG.out]; rintro e w' ⟨rfl, hb⟩; obtain ⟨B, l, q0, q1, f0, f1⟩ := box2 (Or.inl rfl) hb))
  exact bodyPost_ret (v := .tuple #[NB (flN x), .bool true]) (by simp [results, Tryz.results27, go_sem, q0, q1, NB]) rfl ⟨rfl, (B.setCell (by simp) _).setCell (by simp) _⟩
set_option maxRecDepth 100000 in
set_option maxHeartbeats 1000000 in
theorem rounded_no (x : Nat) (cm : calm x) (d : fnan x = true ∨ (FloatKind.f64.format.order (bits BinOp.andNot IntKind.u64 (rte x : Int) 9223372036854775808).toNat 4895412794951729152 == some Ordering.gt || FloatKind.f64.format.order (bits BinOp.andNot IntKind.u64 (rte x : Int) 9223372036854775808).toNat 4895412794951729152 == some Ordering.eq) = true) (w : World) : Calls Tryz.prog 27 #[.float .f64 x] w fun e w' => e = .returned (.tuple #[NB 0, .bool false]) ∧ Below w.heap.size w w' := by
  have hr := call_round x cm
  clear cm
  cases c1 : fnan x
  · rw [c1] at d
    rcases d with d | c2
    · cases d
    · rw [Bool.or_eq_true_iff] at c2
      rcases c2 with c2 | c2
      all_goals
        go_enter Tryz.func27, Tryz.ntmps27
        go_wp2_with (first
          | (go_at_call 50; refine (Abs_of _ _).mono ?_; rintro e w' ⟨rfl, rfl⟩)
          | (go_at_call 23; refine (IsNaN_of _ _).mono ?_; rintro e w' ⟨rfl, rfl⟩))
        exact bodyPost_ret (v := .tuple #[NB 0, .bool false]) (by rw [rd_zero]; simp [results, Tryz.results27, go_sem]) rfl ⟨rfl, (Below.refl _ _).alloc (Nat.le_refl _) _⟩
  · clear d
    go_enter Tryz.func27, Tryz.ntmps27
    go_wp2_with (first
      | (go_at_call 50; refine (Abs_of _ _).mono ?_; rintro e w' ⟨rfl, rfl⟩)
      | (go_at_call 23; refine (IsNaN_of _ _).mono ?_; rintro e w' ⟨rfl, rfl⟩))
    exact bodyPost_ret (v := .tuple #[NB 0, .bool false]) (by rw [rd_zero]; simp [results, Tryz.results27, go_sem]) rfl ⟨rfl, (Below.refl _ _).alloc (Nat.le_refl _) _⟩
theorem rounded_x (x : Nat) (cm : calm x) (w : World) : Calls Tryz.prog 27 #[.float .f64 x] w fun e w' => e = .returned (rnF x) ∧ Below w.heap.size w w' := by
  unfold rnF
  by_cases c : finB x = true ∧ whN x < 18446744073709551616
  · rw [if_pos c]
    exact rounded_yes x c.1 c.2 cm w
  · rw [if_neg c]
    refine rounded_no x cm ?_ w
    by_cases n : fnan x = true
    · exact Or.inl n
    · right
      have n' : fnan x = false := by simpa using n
      by_cases f : finB x = true
      · rw [absr_fin x f]
        have R := rep_wh x ((fin_iff x).1 f)
        rcases (order_rg R).2 (by have : ¬ whN x < 18446744073709551616 := fun q => c ⟨f, q⟩; omega) with o | o <;> rw [o] <;> rfl
      · rw [absr_inf x (by simpa using f) n', ord_top]
        rfl
end Go.Proofs.YtlaamkfpdompjaaGreatDoor
namespace Go.Proofs.YtlaamkfpdompjaaGreatDoor
set_option linter.unusedVariables false
open Go.RowKit
/-- A float as a value of a kind. -/
def frX (k : Int) (x : Nat) : Value :=
  if k = 1 then (if fnan x = true then .tuple #[V 0 0 E0, .int .i64 7] else .tuple #[V 1 (tb (!(x % 9223372036854775808 == 0))) E0, .int .i64 0])
  else if 2 ≤ k ∧ k ≤ 13 then (if finB x = true ∧ whN x < 18446744073709551616 then szV k (flN x) else .tuple #[V 0 0 E0, .int .i64 7])
  else .tuple #[V 0 0 E0, .int .i64 8]
theorem ord_ne (x : Nat) (n : fnan x = false) : (FloatKind.f64.format.order x 0 != some Ordering.eq) = !(x % 9223372036854775808 == 0) := by
  by_cases f : finB x = true
  · rw [bne, ord_eq x f]
  · obtain ⟨o, e⟩ := ord_inf x (by simpa using f) n
    rw [o, e]
    generalize (x / 9223372036854775808 % 2 == 1) = s
    cases s <;> rfl
theorem flN_bd (x : Nat) (h : whN x < 18446744073709551616) : -18446744073709551616 < flN x ∧ flN x < 18446744073709551616 := by
  unfold flN
  split <;> omega
section
variable (k kv b : Int) (s : ByteArray) (x : Nat) (w : World)
set_option maxRecDepth 100000 in
set_option maxHeartbeats 1000000 in
theorem fromFloat_1x : Calls Tryz.prog 9 #[.int .u8 1, .float .f64 x] w fun e w' => e = .returned (frX 1 x) ∧ Below w.heap.size w w' := by
  unfold frX
  rw [if_pos rfl]
  cases c : fnan x
  · have C : Hid (fnan x = false) := c
    have e0 := ord_ne x c
    rw [if_neg (by decide)]
    clear c
    go_enter Tryz.func9, Tryz.ntmps9
    go_wp2_with (first
      | (go_at_call 23; refine (IsNaN_of _ _).mono ?_; rintro e w' ⟨rfl, rfl⟩; rw [C.out])
      | (go_at_call 24; refine (Bool_of _ _).mono ?_; rintro e w1 ⟨rfl, hb⟩; obtain ⟨z0, q0, q1, q2, q6, HB⟩ := step_zeroC hb; clear hb))
    exact bodyPost_ret (v := .tuple #[V 1 (tb (!(x % 9223372036854775808 == 0))) E0, .int .i64 0]) (by rw [← e0]; simp [results, Tryz.results9, go_sem, q0, q1, q2]) rfl ⟨rfl, ((HB.setCell (by simp) _).setCell (by simp) _).setCell (by simp) _⟩
  · have C : Hid (fnan x = true) := c
    rw [if_pos rfl]
    clear c
    go_enter Tryz.func9, Tryz.ntmps9
    go_wp2_with (go_at_call 23; refine (IsNaN_of _ _).mono ?_; rintro e w' ⟨rfl, rfl⟩; rw [C.out])
    exact bodyPost_ret (v := .tuple #[V 0 0 E0, .int .i64 7]) (by simp [results, Tryz.results9, go_sem]) rfl ⟨rfl, (Below.refl _ _).alloc (Nat.le_refl _) _⟩
set_option maxRecDepth 100000 in
set_option maxHeartbeats 1000000 in
theorem fromFloat_8x (hk : 0 ≤ k ∧ k < 256) (d : 14 ≤ k) : Calls Tryz.prog 9 #[.int .u8 k, .float .f64 x] w fun e w' => e = .returned (.tuple #[V 0 0 E0, .int .i64 8]) ∧ Below w.heap.size w w' := by
  have k1 : (k == 1) = false := by simp; omega
  go_enter Tryz.func9, Tryz.ntmps9
  go_wp2_with (first
      | (go_at_call 25; refine (isInteger_is k _ false hk (by symm; simp; omega)).mono ?_; rintro e w1 ⟨rfl, rfl⟩)
      | (go_at_call 26; refine (isRow_is k _ false hk (by symm; simp; omega)).mono ?_; rintro e w1 ⟨rfl, rfl⟩))
  exact bodyPost_ret (v := .tuple #[V 0 0 E0, .int .i64 8]) (by simp [results, Tryz.results9, go_sem]) rfl ⟨rfl, (Below.refl _ _).alloc (Nat.le_refl _) _⟩
/-- An answer of a number that fits or not. -/
theorem sz_form (k N : Int) : ∃ k' b' f, szV k N = .tuple #[V k' b' E0, .int .i64 f] := by
  unfold szV
  split
  · exact ⟨_, _, _, rfl⟩
  · exact ⟨_, _, _, rfl⟩
theorem fitted_sz (k n : Int) (w : World) (hk : 0 ≤ k ∧ k < 256) (g : -18446744073709551616 < n ∧ n < 18446744073709551616) :
    Calls Tryz.prog 28 #[.int .u8 k, NB n, .int .i64 7] w fun e w' => e = .returned (szV k n) ∧ Below w.heap.size w w' := by
  refine (fitted_of k n 7 w hk g).mono ?_
  rintro e w' ⟨rfl, hb⟩
  refine ⟨?_, hb⟩
  unfold szV RV
  cases fitOk k n <;> rfl
set_option maxRecDepth 100000 in
set_option maxHeartbeats 1000000 in
theorem fromFloat_nx (hk : 0 ≤ k ∧ k < 256) (d : 2 ≤ k ∧ k ≤ 13) (h : calm x) : Calls Tryz.prog 9 #[.int .u8 k, .float .f64 x] w fun e w' => e = .returned (if finB x = true ∧ whN x < 18446744073709551616 then szV k (flN x) else .tuple #[V 0 0 E0, .int .i64 7]) ∧ Below w.heap.size w w' := by
  have k1 : (k == 1) = false := by simp; omega
  have R0 : Hid _ := rounded_x x h
  unfold rnF at R0
  clear h
  by_cases c : finB x = true ∧ whN x < 18446744073709551616
  · rw [if_pos c] at R0 ⊢
    have R : Hid (∀ w, Calls Tryz.prog 27 #[.float .f64 x] w fun e w' => e = .returned (.tuple #[NB (flN x), .bool true]) ∧ Below w.heap.size w w') := R0.out
    have F0 : Hid _ := fun w => fitted_sz k (flN x) w hk (flN_bd x c.2)
    obtain ⟨k', b', f, ef⟩ := sz_form k (flN x)
    rw [ef] at F0 ⊢
    have F : Hid (∀ w, Calls Tryz.prog 28 #[.int .u8 k, NB (flN x), .int .i64 7] w fun e w' => e = .returned (.tuple #[V k' b' E0, .int .i64 f]) ∧ Below w.heap.size w w') := F0.out
    clear R0 F0 ef c
    generalize flN x = n at *
    by_cases d9 : k ≤ 9
    · go_enter Tryz.func9, Tryz.ntmps9
      go_wp2_with (first
        | (go_at_call 25; refine (isInteger_is k _ true hk (by symm; simp; omega)).mono ?_; rintro e w1 ⟨rfl, rfl⟩)
        | (go_at_call 27; refine (R.out _).mono ?_; rintro e w2 ⟨rfl, hb⟩; obtain ⟨z0, q0, q1, q2, q6, HB⟩ := step_zeroC hb; clear hb)
        | (go_at_call 28; refine (F.out _).mono ?_; rintro e w4 ⟨rfl, hb4⟩; obtain ⟨y0, p0, p1, p2, p6, PB⟩ := boxC z0 q0 q1 q2 q6 HB hb4; clear hb4))
      exact bodyPost_ret (v := .tuple #[V k' b' E0, .int .i64 f]) (by simp [results, Tryz.results9, go_sem, p0, p1, p2]) rfl ⟨rfl, ((PB.setCell (by simp) _).setCell (by simp) _).setCell (by simp) _⟩
    · go_enter Tryz.func9, Tryz.ntmps9
      go_wp2_with (first
        | (go_at_call 25; refine (isInteger_is k _ false hk (by symm; simp; omega)).mono ?_; rintro e w1 ⟨rfl, rfl⟩)
        | (go_at_call 26; refine (isRow_is k _ true hk (by symm; simp; omega)).mono ?_; rintro e w1 ⟨rfl, rfl⟩)
        | (go_at_call 27; refine (R.out _).mono ?_; rintro e w2 ⟨rfl, hb⟩; obtain ⟨z0, q0, q1, q2, q6, HB⟩ := step_zeroC hb; clear hb)
        | (go_at_call 28; refine (F.out _).mono ?_; rintro e w4 ⟨rfl, hb4⟩; obtain ⟨y0, p0, p1, p2, p6, PB⟩ := boxC z0 q0 q1 q2 q6 HB hb4; clear hb4))
      exact bodyPost_ret (v := .tuple #[V k' b' E0, .int .i64 f]) (by simp [results, Tryz.results9, go_sem, p0, p1, p2]) rfl ⟨rfl, ((PB.setCell (by simp) _).setCell (by simp) _).setCell (by simp) _⟩
  · rw [if_neg c] at R0 ⊢
    have R : Hid (∀ w, Calls Tryz.prog 27 #[.float .f64 x] w fun e w' => e = .returned (.tuple #[NB 0, .bool false]) ∧ Below w.heap.size w w') := R0.out
    clear R0 c
    by_cases d9 : k ≤ 9
    · go_enter Tryz.func9, Tryz.ntmps9
      go_wp2_with (first
        | (go_at_call 25; refine (isInteger_is k _ true hk (by symm; simp; omega)).mono ?_; rintro e w1 ⟨rfl, rfl⟩)
        | (go_at_call 27; refine (R.out _).mono ?_; rintro e w2 ⟨rfl, hb⟩; obtain ⟨z0, q0, q1, q2, q6, HB⟩ := step_zeroC hb; clear hb))
      exact bodyPost_ret (v := .tuple #[V 0 0 E0, .int .i64 7]) (by simp [results, Tryz.results9, go_sem, q0, q1, q2, z0]) rfl ⟨rfl, by go_grown⟩
    · go_enter Tryz.func9, Tryz.ntmps9
      go_wp2_with (first
        | (go_at_call 25; refine (isInteger_is k _ false hk (by symm; simp; omega)).mono ?_; rintro e w1 ⟨rfl, rfl⟩)
        | (go_at_call 26; refine (isRow_is k _ true hk (by symm; simp; omega)).mono ?_; rintro e w1 ⟨rfl, rfl⟩)
        | (go_at_call 27; refine (R.out _).mono ?_; rintro e w2 ⟨rfl, hb⟩; obtain ⟨z0, q0, q1, q2, q6, HB⟩ := step_zeroC hb; clear hb))
      exact bodyPost_ret (v := .tuple #[V 0 0 E0, .int .i64 7]) (by simp [results, Tryz.results9, go_sem, q0, q1, q2, z0]) rfl ⟨rfl, by go_grown⟩
theorem fromFloat_x (hk : 1 ≤ k ∧ k < 256) (h : calm x) : Calls Tryz.prog 9 #[.int .u8 k, .float .f64 x] w fun e w' => e = .returned (frX k x) ∧ Below w.heap.size w w' := by
  by_cases a : k = 1
  · subst a
    exact fromFloat_1x x w
  · unfold frX
    rw [if_neg a]
    by_cases c : 2 ≤ k ∧ k ≤ 13
    · rw [if_pos c]
      exact fromFloat_nx k x w (by omega) c h
    · rw [if_neg c]
      exact fromFloat_8x k x w (by omega) (by omega)
end
end Go.Proofs.YtlaamkfpdompjaaGreatDoor
namespace Go.Proofs.YtlaamkfpdompjaaGreatDoor
set_option linter.unusedVariables false
open Go.RowKit
/-- A text as a BOOL. -/
def ftB (s : ByteArray) : Value := if (s.toList == [84, 82, 85, 69]) = true then .tuple #[V 1 (tb true) E0, .int .i64 0] else if (s.toList == [70, 65, 76, 83, 69]) = true then .tuple #[V 1 (tb false) E0, .int .i64 0] else .tuple #[V 0 0 E0, .int .i64 7]
/-- A text as a value of a kind. -/
def ftX (k : Int) (s : ByteArray) : Value := if k = 1 then ftB s else if 2 ≤ k ∧ k ≤ 9 then txV k (txC s.data.toList) else .tuple #[V 0 0 E0, .int .i64 8]
/-- A time as a value of a kind. -/
def fmX (k kv b : Int) : Value := if k = 5 then szV 5 (num kv b) else if k = 15 ∧ kv = 17 then .tuple #[V 15 (b - b % 86400000000000) E0, .int .i64 0] else if k = 16 ∧ kv = 17 then .tuple #[V 16 (b % 86400000000000) E0, .int .i64 0] else .tuple #[V 0 0 E0, .int .i64 8]
/-- The word of a truth value. -/
def tfS (b : Int) : ByteArray := if b = 1 then ⟨#[84, 82, 85, 69]⟩ else ⟨#[70, 65, 76, 83, 69]⟩
/-- A BOOL, an integer or a bit row as a value of a kind. -/
def fpX (k kv b : Int) : Value := if k = 1 then .tuple #[V 1 (tb (!(b == 0))) E0, .int .i64 0] else if 2 ≤ k ∧ k ≤ 13 ∨ 14 ≤ k ∧ k ≤ 17 ∧ kv = 5 then szV k (num kv b)
  else if k = 18 then .tuple #[V 18 (lrealB (floatOfInt .f64 (num kv b))) E0, .int .i64 0] else if k = 19 ∧ kv ≤ 9 then .tuple #[V 19 0 (if kv = 1 then tfS b else numS (num kv b)), .int .i64 0] else .tuple #[V 0 0 E0, .int .i64 8]
section
variable (k kv b : Int) (s : ByteArray) (x : Nat) (w : World)
set_option maxRecDepth 100000 in
set_option maxHeartbeats 1000000 in
theorem fromText_1x : Calls Tryz.prog 11 #[.int .u8 1, .string s] w fun e w' => e = .returned (ftB s) ∧ Below w.heap.size w w' := by
  unfold ftB
  cases c : (s.toList == [84, 82, 85, 69])
  · cases c2 : (s.toList == [70, 65, 76, 83, 69])
    · go_enter Tryz.func11, Tryz.ntmps11
      go_wp2
      exact bodyPost_ret (v := .tuple #[V 0 0 E0, .int .i64 7]) (by simp [results, Tryz.results11, go_sem]) rfl ⟨rfl, (Below.refl _ _).alloc (Nat.le_refl _) _⟩
    · go_enter Tryz.func11, Tryz.ntmps11
      go_wp2_with (go_at_call 24; refine (Bool_of _ _).mono ?_; rintro e w1 ⟨rfl, hb⟩; obtain ⟨z0, q0, q1, q2, q6, HB⟩ := step_zeroC hb; clear hb)
      exact bodyPost_ret (v := .tuple #[V 1 (tb false) E0, .int .i64 0]) (by simp [results, Tryz.results11, go_sem, q0, q1, q2]) rfl ⟨rfl, ((HB.setCell (by simp) _).setCell (by simp) _).setCell (by simp) _⟩
  · go_enter Tryz.func11, Tryz.ntmps11
    go_wp2_with (go_at_call 24; refine (Bool_of _ _).mono ?_; rintro e w1 ⟨rfl, hb⟩; obtain ⟨z0, q0, q1, q2, q6, HB⟩ := step_zeroC hb; clear hb)
    exact bodyPost_ret (v := .tuple #[V 1 (tb true) E0, .int .i64 0]) (by simp [results, Tryz.results11, go_sem, q0, q1, q2]) rfl ⟨rfl, ((HB.setCell (by simp) _).setCell (by simp) _).setCell (by simp) _⟩
set_option maxRecDepth 100000 in
set_option maxHeartbeats 1000000 in
theorem fromText_8x (hk : 0 ≤ k ∧ k < 256) (d : 10 ≤ k) : Calls Tryz.prog 11 #[.int .u8 k, .string s] w fun e w' => e = .returned (.tuple #[V 0 0 E0, .int .i64 8]) ∧ Below w.heap.size w w' := by
  have k1 : (k == 1) = false := by simp; omega
  go_enter Tryz.func11, Tryz.ntmps11
  go_wp2_with (go_at_call 25; refine (isInteger_is k _ false hk (by symm; simp; omega)).mono ?_; rintro e w1 ⟨rfl, rfl⟩)
  exact bodyPost_ret (v := .tuple #[V 0 0 E0, .int .i64 8]) (by simp [results, Tryz.results11, go_sem]) rfl ⟨rfl, (Below.refl _ _).alloc (Nat.le_refl _) _⟩
theorem fromText_x (hk : 1 ≤ k ∧ k < 256) (hs : s.size ≤ maxLen) : Calls Tryz.prog 11 #[.int .u8 k, .string s] w fun e w' => e = .returned (ftX k s) ∧ Below w.heap.size w w' := by
  unfold ftX
  by_cases a : k = 1
  · subst a
    rw [if_pos rfl]
    exact fromText_1x s w
  · rw [if_neg a]
    by_cases c : 2 ≤ k ∧ k ≤ 9
    · rw [if_pos c]
      exact fromTextC k s w c hs
    · rw [if_neg c]
      exact fromText_8x k s w (by omega) (by omega)
set_option maxRecDepth 100000 in
set_option maxHeartbeats 1000000 in
theorem fromTime_5x (h0 : 0 ≤ b) (h1 : b < 18446744073709551616) : Calls Tryz.prog 13 #[.int .u8 5, V kv b s] w fun e w' => e = .returned (szV 5 (num kv b)) ∧ Below w.heap.size w w' := by
  have F0 : Hid _ := fun w => fitted_sz 5 (num kv b) w (by omega) (by have := num_bd kv b h0 h1; omega)
  obtain ⟨k', b', f, ef⟩ := sz_form 5 (num kv b)
  rw [ef] at F0 ⊢
  have F : Hid (∀ w, Calls Tryz.prog 28 #[.int .u8 5, NB (num kv b), .int .i64 7] w fun e w' => e = .returned (.tuple #[V k' b' E0, .int .i64 f]) ∧ Below w.heap.size w w') := F0.out
  clear F0 ef
  go_enter Tryz.func13, Tryz.ntmps13
  go_wp2_with (first
    | (go_at_call 30; refine (numberOf_of _ _ _ _ h0 h1).mono ?_; rintro e w2 ⟨rfl, hb⟩; obtain ⟨z0, z1, q0, q1, q2, q3, q4, q5, q6, HB⟩ := step_box hb; clear hb)
    | (go_at_call 28; refine (F.out _).mono ?_; rintro e w4 ⟨rfl, hb4⟩; obtain ⟨u0, u1, l0, l1, l2⟩ := step2 hb4 z0 z1))
  exact bodyPost_ret (v := .tuple #[V k' b' E0, .int .i64 f]) (by simp [results, Tryz.results13, go_sem, l1, q3, q4, q5]) rfl ⟨rfl, (((HB.trans (hb4.mono (Nat.le_of_lt z0))).setCell (by simp) _).setCell (by simp) _).setCell (by simp) _⟩
set_option maxRecDepth 100000 in
set_option maxHeartbeats 1000000 in
theorem fromTime_8x (d : ¬ k = 5) (d2 : ¬ (k = 15 ∧ kv = 17)) (d3 : ¬ (k = 16 ∧ kv = 17)) : Calls Tryz.prog 13 #[.int .u8 k, V kv b s] w fun e w' => e = .returned (.tuple #[V 0 0 E0, .int .i64 8]) ∧ Below w.heap.size w w' := by
  have k5 : (k == 5) = false := by simpa using d
  have X : Hid _ := d2
  have Y : Hid _ := d3
  clear d d2 d3
  by_cases v17 : kv = 17
  · subst v17
    have k15 : (k == 15) = false := by rw [beq_eq_false_iff_ne]; exact fun e => X.out ⟨e, rfl⟩
    have k16 : (k == 16) = false := by rw [beq_eq_false_iff_ne]; exact fun e => Y.out ⟨e, rfl⟩
    go_enter Tryz.func13, Tryz.ntmps13
    go_wp2
    exact bodyPost_ret (v := .tuple #[V 0 0 E0, .int .i64 8]) (by simp [results, Tryz.results13, go_sem]) rfl ⟨rfl, ((Below.refl _ _).alloc (Nat.le_refl _) _).alloc (by simp) _⟩
  · have f17 : (kv == 17) = false := by simpa using v17
    by_cases a : k = 15
    · subst a
      go_enter Tryz.func13, Tryz.ntmps13
      go_wp2
      exact bodyPost_ret (v := .tuple #[V 0 0 E0, .int .i64 8]) (by simp [results, Tryz.results13, go_sem]) rfl ⟨rfl, ((Below.refl _ _).alloc (Nat.le_refl _) _).alloc (by simp) _⟩
    · by_cases a' : k = 16
      · subst a'
        go_enter Tryz.func13, Tryz.ntmps13
        go_wp2
        exact bodyPost_ret (v := .tuple #[V 0 0 E0, .int .i64 8]) (by simp [results, Tryz.results13, go_sem]) rfl ⟨rfl, ((Below.refl _ _).alloc (Nat.le_refl _) _).alloc (by simp) _⟩
      · have k15 : (k == 15) = false := by simpa using a
        have k16 : (k == 16) = false := by simpa using a'
        go_enter Tryz.func13, Tryz.ntmps13
        go_wp2
        exact bodyPost_ret (v := .tuple #[V 0 0 E0, .int .i64 8]) (by simp [results, Tryz.results13, go_sem]) rfl ⟨rfl, ((Below.refl _ _).alloc (Nat.le_refl _) _).alloc (by simp) _⟩
theorem fromTime_x (h0 : 0 ≤ b) (h1 : b < 18446744073709551616) (m : may3 kv b s = true) : Calls Tryz.prog 13 #[.int .u8 k, V kv b s] w fun e w' => e = .returned (fmX k kv b) ∧ Below w.heap.size w w' := by
  unfold fmX
  by_cases d : k = 5
  · subst d
    rw [if_pos rfl]
    exact fromTime_5x kv b s w h0 h1
  · rw [if_neg d]
    by_cases d2 : k = 15 ∧ kv = 17
    · rw [if_pos d2]
      obtain ⟨rfl, rfl⟩ := d2
      have l : b < 7258118400000000000 := by simp [may3, mayW] at m; exact m.2
      exact fromTime_d b s w h0 l
    · rw [if_neg d2]
      by_cases d3 : k = 16 ∧ kv = 17
      · rw [if_pos d3]
        obtain ⟨rfl, rfl⟩ := d3
        have l : b < 7258118400000000000 := by simp [may3, mayW] at m; exact m.2
        exact fromTime_t b s w h0 l
      · rw [if_neg d3]
        exact fromTime_8x k kv b s w d d2 d3
set_option maxRecDepth 100000 in
set_option maxHeartbeats 1000000 in
theorem fromPlain_1x : Calls Tryz.prog 14 #[.int .u8 1, V kv b s] w fun e w' => e = .returned (.tuple #[V 1 (tb (!(b == 0))) E0, .int .i64 0]) ∧ Below w.heap.size w w' := by
  obtain ⟨p, hp⟩ : ∃ p, (b == 0) = p := ⟨_, rfl⟩
  have hq : (b != 0) = !p := by rw [bne, hp]
  rw [hp]
  go_enter Tryz.func14, Tryz.ntmps14
  go_wp2_with (go_at_call 24; refine (Bool_of _ _).mono ?_; rintro e w1 ⟨rfl, hb⟩; obtain ⟨z0, z1, q0, q1, q2, q3, q4, q5, q6, HB⟩ := step_box hb; clear hb)
  exact bodyPost_ret (v := .tuple #[V 1 (tb (!p)) E0, .int .i64 0]) (by rw [← hq]; simp [results, Tryz.results14, go_sem, q3, q4, q5]) rfl ⟨rfl, ((HB.setCell (by simp) _).setCell (by simp) _).setCell (by simp) _⟩
set_option maxRecDepth 100000 in
set_option maxHeartbeats 2000000 in
theorem Print_1 (h0 : 0 ≤ b) (h1 : b < 18446744073709551616) (hs : s.size ≤ maxLen) (m : may3 1 b s = true) :
    Calls Tryz.prog 34 #[V 1 b s] w fun e w' => e = .returned (.string (tfS b)) ∧ Below w.heap.size w w' := by
  have M : Hid (∀ w, Calls Tryz.prog 7 #[V 1 b s] w fun e w' => e = .returned (.bool true) ∧ Below w.heap.size w w') := fun w => by
    have := May_of 1 b s w h0 h1 (by omega) hs
    rwa [m] at this
  clear m
  unfold tfS
  by_cases b1 : b = 1
  · rw [if_pos b1]
    subst b1
    go_enter Tryz.func34, Tryz.ntmps34
    go_wp2_with fail
    refine (M.out _).mono ?_
    rintro e w1 ⟨rfl, hb⟩
    have B : Hid (Below w.heap.size w w1) := ((Below.refl _ _).alloc (Nat.le_refl _) _).trans (hb.mono (by simp))
    obtain ⟨l0, c00, c01, c02⟩ := (Lies.new w 1 _ s _).next hb
    clear hb
    go_wp2
    go_ret
    exact ⟨rfl, B.out⟩
  · rw [if_neg b1]
    have b2 : (b == 1) = false := by simpa using b1
    clear b1
    go_enter Tryz.func34, Tryz.ntmps34
    go_wp2_with fail
    refine (M.out _).mono ?_
    rintro e w1 ⟨rfl, hb⟩
    have B : Hid (Below w.heap.size w w1) := ((Below.refl _ _).alloc (Nat.le_refl _) _).trans (hb.mono (by simp))
    obtain ⟨l0, c00, c01, c02⟩ := (Lies.new w 1 _ s _).next hb
    clear hb
    go_wp2
    go_ret
    exact ⟨rfl, B.out⟩
set_option maxRecDepth 100000 in
set_option maxHeartbeats 1000000 in
theorem fp_text_1 (h0 : 0 ≤ b) (h1 : b < 18446744073709551616) (hs : s.size ≤ maxLen) (m : may3 1 b s = true) : Calls Tryz.prog 14 #[.int .u8 19, V 1 b s] w fun e w' => e = .returned (.tuple #[V 19 0 (tfS b), .int .i64 0]) ∧ Below w.heap.size w w' := by
  have P : Hid (∀ w, Calls Tryz.prog 34 #[V 1 b s] w fun e w' => e = .returned (.string (tfS b)) ∧ Below w.heap.size w w') := fun w => Print_1 b s w h0 h1 hs m
  have ht : (tfS b).size ≤ 21 := by unfold tfS; split <;> decide
  clear m
  generalize tfS b = t at *
  go_enter Tryz.func14, Tryz.ntmps14
  go_wp2_with (first
    | (go_at_call 25; refine (isInteger_is 19 _ false (by omega) (by simp)).mono ?_; rintro e w1 ⟨rfl, rfl⟩)
    | (go_at_call 26; refine (isRow_is 19 _ false (by omega) (by simp)).mono ?_; rintro e w1 ⟨rfl, rfl⟩)
    | (go_at_call 26; refine (isRow_is 1 _ false (by omega) (by simp)).mono ?_; rintro e w1 ⟨rfl, rfl⟩)
    | (go_at_call 12; refine (isTime_is 19 _ false (by omega) (by simp)).mono ?_; rintro e w1 ⟨rfl, rfl⟩)
    | (go_at_call 34; refine (P.out _).mono ?_; rintro e w2 ⟨rfl, hb⟩; obtain ⟨z0, z1, q0, q1, q2, q3, q4, q5, q6, HB⟩ := step_box hb; clear hb)
    | (go_at_call 33; refine (Text_of _ _ (by unfold maxLen; omega)).mono ?_; rw [textR, if_pos (by omega)]; rintro e w4 ⟨rfl, hb4⟩; obtain ⟨u0, u1, l0, l1, l2⟩ := step2 hb4 z0 z1))
  exact bodyPost_ret (v := .tuple #[V 19 0 t, .int .i64 0]) (by simp [results, Tryz.results14, go_sem, l1, q3, q4, q5]) rfl ⟨rfl, (((HB.trans (hb4.mono (Nat.le_of_lt z0))).setCell (by simp) _).setCell (by simp) _).setCell (by simp) _⟩
theorem fromPlain_x (h0 : 0 ≤ b) (h1 : b < 18446744073709551616) (hs : s.size ≤ maxLen) (hk : 1 ≤ k ∧ k ≤ 19) (hv : 1 ≤ kv ∧ kv ≤ 13) (m : may3 kv b s = true) (hP : Pow w) : Calls Tryz.prog 14 #[.int .u8 k, V kv b s] w fun e w' => e = .returned (fpX k kv b) ∧ Below w.heap.size w w' := by
  unfold fpX
  by_cases a1 : k = 1
  · subst a1
    rw [if_pos rfl]
    exact fromPlain_1x kv b s w
  rw [if_neg a1]
  by_cases a2 : 2 ≤ k ∧ k ≤ 13 ∨ 14 ≤ k ∧ k ≤ 17 ∧ kv = 5
  · rw [if_pos a2]
    unfold szV
    cases f : fitOk k (num kv b)
    · rw [if_neg (by decide)]
      rcases (by omega : 2 ≤ k ∧ k ≤ 9 ∨ 10 ≤ k ∧ k ≤ 13 ∨ 14 ≤ k ∧ k ≤ 17 ∧ kv = 5) with d | d | d
      · exact fp_int_no k kv b s w h0 h1 d f
      · exact fp_row_no k kv b s w h0 h1 d f
      · obtain ⟨d1, d2, rfl⟩ := d
        exact fp_time_no k b s w h0 h1 ⟨d1, d2⟩ f
    · rw [if_pos rfl]
      rcases (by omega : 2 ≤ k ∧ k ≤ 9 ∨ 10 ≤ k ∧ k ≤ 13 ∨ 14 ≤ k ∧ k ≤ 17 ∧ kv = 5) with d | d | d
      · exact fp_int_yes k kv b s w h0 h1 d f
      · exact fp_row_yes k kv b s w h0 h1 d f
      · obtain ⟨d1, d2, rfl⟩ := d
        exact fp_time_yes k b s w h0 h1 ⟨d1, d2⟩ f
  rw [if_neg a2]
  by_cases a3 : k = 18
  · subst a3
    rw [if_pos rfl]
    exact fp_real kv b s w h0 h1
  rw [if_neg a3]
  by_cases a4 : k = 19 ∧ kv ≤ 9
  · rw [if_pos a4]
    obtain ⟨rfl, g⟩ := a4
    by_cases v1 : kv = 1
    · subst v1
      rw [if_pos rfl]
      exact fp_text_1 b s w h0 h1 hs m
    · rw [if_neg v1]
      exact fp_text_is kv b s w h0 h1 hs (by omega) m hP
  · rw [if_neg a4]
    exact fp_none k kv b s w (by omega) (by omega) (by omega)
end
end Go.Proofs.YtlaamkfpdompjaaGreatDoor
namespace Go.Proofs.YtlaamkfpdompjaaGreatDoor
set_option linter.unusedVariables false
open Go.RowKit
/-- A value as of a kind, or the fault. -/
def cvX (k kv b : Int) (s : ByteArray) : Value :=
  if may3 kv b s = true ∧ 1 ≤ k ∧ k ≤ 19 then
    (if kv = k then .tuple #[V k b s, .int .i64 0] else if kv = 18 then frX k b.toNat else if kv = 19 then ftX k s else if 14 ≤ kv ∧ kv ≤ 17 then fmX k kv b else fpX k kv b)
  else .tuple #[V 0 0 E0, .int .i64 8]
/-- An answer: a value and a fault. -/
def Ans4 (v : Value) : Prop := ∃ k' b' s' f, v = .tuple #[V k' b' s', .int .i64 f]
theorem ans_mk (k' b' f : Int) (s' : ByteArray) : Ans4 (.tuple #[V k' b' s', .int .i64 f]) := ⟨k', b', s', f, rfl⟩
theorem ans_sz (k N : Int) : Ans4 (szV k N) := by
  obtain ⟨k', b', f, e⟩ := sz_form k N
  exact ⟨k', b', E0, f, e⟩
theorem ans_tx (k : Int) (o : Option Int) : Ans4 (txV k o) := by
  unfold txV
  cases o
  · exact ans_mk _ _ _ _
  · dsimp only
    split <;> exact ans_mk _ _ _ _
theorem ans_fr (k : Int) (x : Nat) : Ans4 (frX k x) := by
  unfold frX
  split
  · split <;> exact ans_mk _ _ _ _
  · split
    · split
      · exact ans_sz _ _
      · exact ans_mk _ _ _ _
    · exact ans_mk _ _ _ _
theorem ans_ft (k : Int) (s : ByteArray) : Ans4 (ftX k s) := by
  unfold ftX ftB
  split
  · split
    · exact ans_mk _ _ _ _
    · split <;> exact ans_mk _ _ _ _
  · split
    · exact ans_tx _ _
    · exact ans_mk _ _ _ _
theorem ans_fm (k kv b : Int) : Ans4 (fmX k kv b) := by
  unfold fmX
  split
  · exact ans_sz _ _
  · split
    · exact ans_mk _ _ _ _
    · split <;> exact ans_mk _ _ _ _
theorem ans_fp (k kv b : Int) : Ans4 (fpX k kv b) := by
  unfold fpX
  split
  · exact ans_mk _ _ _ _
  · split
    · exact ans_sz _ _
    · split
      · exact ans_mk _ _ _ _
      · split <;> exact ans_mk _ _ _ _
theorem may_kv {k b : Int} {s : ByteArray} (m : may3 k b s = true) : 1 ≤ k ∧ k ≤ 19 := by
  constructor
  · apply Classical.byContradiction
    intro q
    simp only [may3, mayW] at m
    simp [show ¬ k = 19 by omega, show ¬ k = 1 by omega, show ¬ k = 2 by omega, show ¬ k = 3 by omega, show ¬ k = 4 by omega, show ¬ k = 5 by omega, show ¬ k = 6 by omega, show ¬ k = 7 by omega, show ¬ k = 8 by omega, show ¬ k = 9 by omega, show ¬ k = 10 by omega, show ¬ k = 11 by omega, show ¬ k = 12 by omega, show ¬ k = 13 by omega, show ¬ k = 14 by omega, show ¬ k = 15 by omega, show ¬ k = 16 by omega, show ¬ k = 17 by omega, show ¬ k = 18 by omega] at m
  · apply Classical.byContradiction
    intro q
    simp only [may3, mayW] at m
    simp [show ¬ k = 19 by omega, show ¬ k = 1 by omega, show ¬ k = 2 by omega, show ¬ k = 3 by omega, show ¬ k = 4 by omega, show ¬ k = 5 by omega, show ¬ k = 6 by omega, show ¬ k = 7 by omega, show ¬ k = 8 by omega, show ¬ k = 9 by omega, show ¬ k = 10 by omega, show ¬ k = 11 by omega, show ¬ k = 12 by omega, show ¬ k = 13 by omega, show ¬ k = 14 by omega, show ¬ k = 15 by omega, show ¬ k = 16 by omega, show ¬ k = 17 by omega, show ¬ k = 18 by omega] at m
theorem may_calm {b : Int} {s : ByteArray} (h0 : 0 ≤ b) (m : may3 18 b s = true) : calm b.toNat := by
  apply calm_of
  simp [may3, mayW] at m
  rcases m.2 with q | q
  · left; omega
  · right; exact q
section
variable (k kv b : Int) (s : ByteArray) (w : World)
set_option maxRecDepth 100000 in
set_option maxHeartbeats 1000000 in
theorem Convert_bad (h0 : 0 ≤ b) (h1 : b < 18446744073709551616) (hk : 0 ≤ k ∧ k < 256) (hv : 0 ≤ kv ∧ kv < 256) (hs : s.size ≤ maxLen) (d : may3 kv b s = false ∨ ¬ (1 ≤ k ∧ k ≤ 19)) : Calls Tryz.prog 4 #[.int .u8 k, V kv b s] w fun e w' => e = .returned (.tuple #[V 0 0 E0, .int .i64 8]) ∧ Below w.heap.size w w' := by
  have M : Hid (∀ w, Calls Tryz.prog 7 #[V kv b s] w fun e w' => e = .returned (.bool (may3 kv b s)) ∧ Below w.heap.size w w') := fun w => May_of kv b s w h0 h1 hv hs
  cases m : may3 kv b s
  · rw [m] at M
    clear d m
    go_enter Tryz.func4, Tryz.ntmps4
    go_wp2_with (go_at_call 7; refine (M.out _).mono ?_; rintro e w1 ⟨rfl, hb⟩; obtain ⟨z0, z1, q0, q1, q2, q3, q4, q5, q6, HB⟩ := step_box hb; clear hb)
    exact bodyPost_ret (v := .tuple #[V 0 0 E0, .int .i64 8]) (by simp [results, Tryz.results4, go_sem, q3, q4, q5]) rfl ⟨rfl, ((HB.setCell (by simp) _).setCell (by simp) _).setCell (by simp) _⟩
  · have dk : ¬ (1 ≤ k ∧ k ≤ 19) := by
      rcases d with d | d
      · rw [m] at d
        cases d
      · exact d
    rw [m] at M
    clear d m
    have DK : Hid _ := dk
    clear dk
    go_enter Tryz.func4, Tryz.ntmps4
    go_wp2_with (first
      | (go_at_call 7; refine (M.out _).mono ?_; rintro e w1 ⟨rfl, hb⟩; obtain ⟨z0, z1, q0, q1, q2, q3, q4, q5, q6, HB⟩ := step_box hb; clear hb)
      | (go_at_call 8; refine (isKind_is k _ false hk (by symm; rw [decide_eq_false_iff_not]; exact DK.out)).mono ?_; rintro e w2 ⟨rfl, rfl⟩))
    exact bodyPost_ret (v := .tuple #[V 0 0 E0, .int .i64 8]) (by simp [results, Tryz.results4, go_sem, q3, q4, q5]) rfl ⟨rfl, ((HB.setCell (by simp) _).setCell (by simp) _).setCell (by simp) _⟩
set_option maxRecDepth 100000 in
set_option maxHeartbeats 1000000 in
theorem Convert_real (h0 : 0 ≤ b) (h1 : b < 18446744073709551616) (hk : 1 ≤ k ∧ k ≤ 19) (hs : s.size ≤ maxLen) (m : may3 18 b s = true) (ne : ¬ 18 = k) (k' b' f : Int) (s' : ByteArray)
    (F : Hid (∀ w, Calls Tryz.prog 9 #[.int .u8 k, .float .f64 b.toNat] w fun e w' => e = .returned (.tuple #[V k' b' s', .int .i64 f]) ∧ Below w.heap.size w w')) : Calls Tryz.prog 4 #[.int .u8 k, V 18 b s] w fun e w' => e = .returned (.tuple #[V k' b' s', .int .i64 f]) ∧ Below w.heap.size w w' := by
  have M : Hid (∀ w, Calls Tryz.prog 7 #[V 18 b s] w fun e w' => e = .returned (.bool true) ∧ Below w.heap.size w w') := fun w => by
    have := May_of 18 b s w h0 h1 (by omega) hs
    rwa [m] at this
  have g : ((18 : Int) == k) = false := by simpa using ne
  have hx := call_frombits
  clear m
  go_enter Tryz.func4, Tryz.ntmps4
  go_wp2_with (first
    | (go_at_call 7; refine (M.out _).mono ?_; rintro e w1 ⟨rfl, hb⟩; obtain ⟨z0, z1, q0, q1, q2, q3, q4, q5, q6, HB⟩ := step_box hb; clear hb)
    | (go_at_call 8; refine (isKind_is k _ true (by omega) (by symm; simpa using hk)).mono ?_; rintro e w2 ⟨rfl, rfl⟩)
    | (go_at_call 9; refine (F.out _).mono ?_; rintro e w4 ⟨rfl, hb4⟩; obtain ⟨u0, u1, l0, l1, l2⟩ := step2 hb4 z0 z1))
  exact bodyPost_ret (v := .tuple #[V k' b' s', .int .i64 f]) (by simp [results, Tryz.results4, go_sem, l1, q3, q4, q5]) rfl ⟨rfl, (((HB.trans (hb4.mono (Nat.le_of_lt z0))).setCell (by simp) _).setCell (by simp) _).setCell (by simp) _⟩
set_option maxRecDepth 100000 in
set_option maxHeartbeats 1000000 in
theorem Convert_str (h0 : 0 ≤ b) (h1 : b < 18446744073709551616) (hk : 1 ≤ k ∧ k ≤ 19) (hs : s.size ≤ maxLen) (m : may3 19 b s = true) (ne : ¬ 19 = k) (k' b' f : Int) (s' : ByteArray)
    (F : Hid (∀ w, Calls Tryz.prog 11 #[.int .u8 k, .string s] w fun e w' => e = .returned (.tuple #[V k' b' s', .int .i64 f]) ∧ Below w.heap.size w w')) : Calls Tryz.prog 4 #[.int .u8 k, V 19 b s] w fun e w' => e = .returned (.tuple #[V k' b' s', .int .i64 f]) ∧ Below w.heap.size w w' := by
  have M : Hid (∀ w, Calls Tryz.prog 7 #[V 19 b s] w fun e w' => e = .returned (.bool true) ∧ Below w.heap.size w w') := fun w => by
    have := May_of 19 b s w h0 h1 (by omega) hs
    rwa [m] at this
  have g : ((19 : Int) == k) = false := by simpa using ne
  clear m
  go_enter Tryz.func4, Tryz.ntmps4
  go_wp2_with (first
    | (go_at_call 7; refine (M.out _).mono ?_; rintro e w1 ⟨rfl, hb⟩; obtain ⟨z0, z1, q0, q1, q2, q3, q4, q5, q6, HB⟩ := step_box hb; clear hb)
    | (go_at_call 8; refine (isKind_is k _ true (by omega) (by symm; simpa using hk)).mono ?_; rintro e w2 ⟨rfl, rfl⟩)
    | (go_at_call 11; refine (F.out _).mono ?_; rintro e w4 ⟨rfl, hb4⟩; obtain ⟨u0, u1, l0, l1, l2⟩ := step2 hb4 z0 z1))
  exact bodyPost_ret (v := .tuple #[V k' b' s', .int .i64 f]) (by simp [results, Tryz.results4, go_sem, l1, q3, q4, q5]) rfl ⟨rfl, (((HB.trans (hb4.mono (Nat.le_of_lt z0))).setCell (by simp) _).setCell (by simp) _).setCell (by simp) _⟩
set_option maxRecDepth 100000 in
set_option maxHeartbeats 1000000 in
theorem Convert_time (h0 : 0 ≤ b) (h1 : b < 18446744073709551616) (hk : 1 ≤ k ∧ k ≤ 19) (hs : s.size ≤ maxLen) (m : may3 kv b s = true) (ne : ¬ kv = k) (et : 14 ≤ kv ∧ kv ≤ 17) (k' b' f : Int) (s' : ByteArray)
    (F : Hid (∀ w, Calls Tryz.prog 13 #[.int .u8 k, V kv b s] w fun e w' => e = .returned (.tuple #[V k' b' s', .int .i64 f]) ∧ Below w.heap.size w w')) : Calls Tryz.prog 4 #[.int .u8 k, V kv b s] w fun e w' => e = .returned (.tuple #[V k' b' s', .int .i64 f]) ∧ Below w.heap.size w w' := by
  have M : Hid (∀ w, Calls Tryz.prog 7 #[V kv b s] w fun e w' => e = .returned (.bool true) ∧ Below w.heap.size w w') := fun w => by
    have := May_of kv b s w h0 h1 (by omega) hs
    rwa [m] at this
  have g : ((kv : Int) == k) = false := by simpa using ne
  have f18 : (kv == 18) = false := by simp; omega
  have f19 : (kv == 19) = false := by simp; omega
  clear m
  go_enter Tryz.func4, Tryz.ntmps4
  go_wp2_with (first
    | (go_at_call 7; refine (M.out _).mono ?_; rintro e w1 ⟨rfl, hb⟩; obtain ⟨z0, z1, q0, q1, q2, q3, q4, q5, q6, HB⟩ := step_box hb; clear hb)
    | (go_at_call 8; refine (isKind_is k _ true (by omega) (by symm; simpa using hk)).mono ?_; rintro e w2 ⟨rfl, rfl⟩)
    | (go_at_call 12; refine (isTime_is kv _ true (by omega) (by symm; simpa using et)).mono ?_; rintro e w2 ⟨rfl, rfl⟩)
    | (go_at_call 13; refine (F.out _).mono ?_; rintro e w4 ⟨rfl, hb4⟩; obtain ⟨u0, u1, l0, l1, l2⟩ := step2 hb4 z0 z1))
  exact bodyPost_ret (v := .tuple #[V k' b' s', .int .i64 f]) (by simp [results, Tryz.results4, go_sem, l1, q3, q4, q5]) rfl ⟨rfl, (((HB.trans (hb4.mono (Nat.le_of_lt z0))).setCell (by simp) _).setCell (by simp) _).setCell (by simp) _⟩
theorem ConvertC (h0 : 0 ≤ b) (h1 : b < 18446744073709551616) (hk : 0 ≤ k ∧ k < 256) (hv : 0 ≤ kv ∧ kv < 256) (hs : s.size ≤ maxLen) (hP : Pow w) : Calls Tryz.prog 4 #[.int .u8 k, V kv b s] w fun e w' => e = .returned (cvX k kv b s) ∧ Below w.heap.size w w' := by
  unfold cvX
  by_cases a : may3 kv b s = true ∧ 1 ≤ k ∧ k ≤ 19
  · rw [if_pos a]
    obtain ⟨m, hk'⟩ := a
    have kb := may_kv m
    by_cases e : kv = k
    · rw [if_pos e]
      subst e
      exact Convert_same kv b s w h0 h1 hk' hs m
    rw [if_neg e]
    by_cases e18 : kv = 18
    · rw [if_pos e18]
      subst e18
      have F0 : Hid _ := fun w => fromFloat_x k b.toNat w (by omega) (may_calm h0 m)
      obtain ⟨k', b', s', f, q⟩ := ans_fr k b.toNat
      rw [q] at F0 ⊢
      exact Convert_real k b s w h0 h1 hk' hs m e k' b' f s' F0
    rw [if_neg e18]
    by_cases e19 : kv = 19
    · rw [if_pos e19]
      subst e19
      have F0 : Hid _ := fun w => fromText_x k s w (by omega) hs
      obtain ⟨k', b', s', f, q⟩ := ans_ft k s
      rw [q] at F0 ⊢
      exact Convert_str k b s w h0 h1 hk' hs m e k' b' f s' F0
    rw [if_neg e19]
    by_cases et : 14 ≤ kv ∧ kv ≤ 17
    · rw [if_pos et]
      have F0 : Hid _ := fun w => fromTime_x k kv b s w h0 h1 m
      obtain ⟨k', b', s', f, q⟩ := ans_fm k kv b
      rw [q] at F0 ⊢
      exact Convert_time k kv b s w h0 h1 hk' hs m e et k' b' f s' F0
    rw [if_neg et]
    have F0 : Hid _ := fun w hp => fromPlain_x k kv b s w h0 h1 hs hk' (by omega) m hp
    obtain ⟨k', b', s', f, q⟩ := ans_fp k kv b
    rw [q] at F0 ⊢
    exact Convert_plain k kv b s w h0 h1 hk' (by omega) hs m e hP k' b' f s' F0
  · rw [if_neg a]
    refine Convert_bad k kv b s w h0 h1 hk hv hs ?_
    cases m : may3 kv b s
    · exact Or.inl rfl
    · exact Or.inr fun q => a ⟨m, q⟩
end
end Go.Proofs.YtlaamkfpdompjaaGreatDoor
