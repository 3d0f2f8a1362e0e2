/- Digits, fractions, parts of spans, there and back, plainly; what the parts of times.Parse answer of texts of a form: hasForm, field, cutPart, nanos, findUnit; no statement of the seat is proved here. -/
import Derived.Test.YtpdnlojennhmpaaGreatDoorUnA
import Derived.Test.YtpdnlojennhmpaaGreatDoorDecP
import Derived.Test.YtpdnlojennhmpaaGreatDoorPaC
import Derived.Lib.TrimByte
import Derived.Test.YtpdnlojennhmpaaGreatDoorSubG
namespace Go.Proofs.YtpdnlojennhmpaaGreatDoor
set_option linter.unusedVariables false
open Go.RowKit
theorem dgV (n i : Nat) : (Lib.dg n i).toNat = 48 + n / 10 ^ i % 10 := by
  unfold Lib.dg
  have : n / 10 ^ i % 10 < 10 := Nat.mod_lt _ (by omega)
  simp
  omega
theorem low_mod (n i : Nat) : n % 10 ^ (i + 1) = n / 10 ^ i % 10 * 10 ^ i + n % 10 ^ i := by
  rw [Nat.pow_succ, Nat.mod_mul, Nat.mul_comm (10 ^ i), Nat.add_comm]
/-- Digits are digits. -/
theorem run_low (x : List UInt8) : ∀ (i n : Nat), runT digT (decLow i n ++ x) = i + runT digT x
  | 0, n => by simp [decLow]
  | i + 1, n => by
    simp only [decLow, List.cons_append, runT]
    have h := dgV n i
    have : n / 10 ^ i % 10 < 10 := Nat.mod_lt _ (by omega)
    rw [if_pos (by unfold digT; simp; omega), run_low x i n]
    omega
theorem run_dec (u : Nat) (x : List UInt8) : runT digT (Lib.decDigits u ++ x) = (Lib.decDigits u).length + runT digT x := by
  rw [decLow_all, run_low, decLow_len]
/-- What digits are read as. -/
theorem rn_low : ∀ (i n z : Nat), z * 10 ^ i + n % 10 ^ i ≤ 9223372036854775807 → rnF (decLow i n) (z : Int) = some ((z * 10 ^ i + n % 10 ^ i : Nat) : Int)
  | 0, n, z, _ => by simp [decLow, rnF, Nat.mod_one]
  | i + 1, n, z, h => by
    simp only [decLow, rnF]
    have hd := dgV n i
    have hm := low_mod n i
    have d10 : n / 10 ^ i % 10 < 10 := Nat.mod_lt _ (by omega)
    generalize n / 10 ^ i % 10 = d at *
    have e : (z * 10 + d) * 10 ^ i + n % 10 ^ i = z * 10 ^ (i + 1) + n % 10 ^ (i + 1) := by
      rw [hm, Nat.pow_succ, Nat.add_mul, Nat.mul_assoc, Nat.mul_comm 10]; omega
    have p : 1 ≤ 10 ^ i := Nat.pow_pos (by omega)
    have le : z * 10 + d ≤ (z * 10 + d) * 10 ^ i := Nat.le_mul_of_pos_right _ p
    rw [hd]
    have c : (((48 + d : Nat) : Int) - 48) % 256 = d := by omega
    rw [c, if_neg (by omega), show (z : Int) * 10 + d = ((z * 10 + d : Nat) : Int) by push_cast; rfl, rn_low i n (z * 10 + d) (by omega), e]
theorem rn_dec (u : Nat) (h : u ≤ 9223372036854775807) : rnF (Lib.decDigits u) 0 = some (u : Int) := by
  have := rn_low (Lib.nDigits u) u 0 (by have := Nat.mod_le u (10 ^ Lib.nDigits u); omega)
  rw [decLow_all]
  rw [Nat.mod_eq_of_lt (Lib.lt_pow_nDigits u)] at this
  simpa using this
/-- What digits behind a dot are read as. -/
theorem rf_low (x : Nat) (T : List UInt8) : ∀ (i : Nat), i ≤ 9 → rfF 1000000000 ((decLow i x).reverse ++ T) 0 = rfF 1000000000 T ((x % 10 ^ i * 10 ^ (9 - i) : Nat) : Int)
  | 0, _ => by simp [decLow, Nat.mod_one]
  | i + 1, h => by
    simp only [decLow, List.reverse_cons, List.append_assoc, List.singleton_append]
    have ih := rf_low x (Lib.dg x i :: T) i (by omega)
    rw [ih]
    simp only [rfF]
    have hd := dgV x i
    have hm := low_mod x i
    have d10 : x / 10 ^ i % 10 < 10 := Nat.mod_lt _ (by omega)
    generalize x / 10 ^ i % 10 = d at *
    rw [hd]
    have c : (((48 + d : Nat) : Int) - 48) % 256 = d := by omega
    have e : x % 10 ^ i * 10 ^ (9 - i) + d * 1000000000 = x % 10 ^ (i + 1) * 10 ^ (9 - (i + 1)) * 10 := by
      have a : 10 ^ (9 - i) = 10 ^ (9 - (i + 1)) * 10 := by rw [← Nat.pow_succ]; congr 1; omega
      have b : 1000000000 = 10 ^ i * (10 ^ (9 - (i + 1)) * 10) := by
        rw [← a, ← Nat.pow_add, show i + (9 - i) = 9 by omega]
      rw [hm, a, Nat.add_mul, Nat.add_mul]
      rw [show d * 1000000000 = d * 10 ^ i * 10 ^ (9 - (i + 1)) * 10 by rw [b]; simp [Nat.mul_assoc]]
      simp only [Nat.mul_assoc]
      omega
    generalize x % 10 ^ (i + 1) * 10 ^ (9 - (i + 1)) = y at *
    generalize x % 10 ^ i * 10 ^ (9 - i) = v at *
    rw [c]
    have e' : (v : Int) + d * 1000000000 = (y : Int) * 10 := by omega
    rw [e', if_pos (by omega)]
    congr 1
    omega
/-- Noughts at the end are cut off. -/
theorem trim_low : ∀ (i n : Nat), ∃ k x, k ≤ i ∧ Lib.trimRightB (decLow i n) 48 = decLow k x ∧ n % 10 ^ i = x % 10 ^ k * 10 ^ (i - k) ∧ (n % 10 ^ i ≠ 0 → 1 ≤ k)
  | 0, n => ⟨0, n, Nat.le_refl _, rfl, by simp, by simp [Nat.mod_one]⟩
  | i + 1, n => by
    by_cases z : n % 10 = 0
    · obtain ⟨k, x, hk, e, hx, hz⟩ := trim_low i (n / 10)
      have m : n % 10 ^ (i + 1) = n / 10 % 10 ^ i * 10 := by
        rw [Nat.pow_succ, Nat.mul_comm, Nat.mod_mul, z]; omega
      refine ⟨k, x, by omega, ?_, ?_, ?_⟩
      · rw [decLow_snoc, z, ← e]
        unfold Lib.trimRightB
        simp
      · rw [m, hx, show i + 1 - k = i - k + 1 by omega, Nat.pow_succ, Nat.mul_assoc]
      · intro h; apply hz; intro g; apply h; rw [m, g]
    · refine ⟨i + 1, n, Nat.le_refl _, ?_, by simp, fun _ => by omega⟩
      rw [decLow_snoc]
      unfold Lib.trimRightB
      have : n % 10 < 10 := Nat.mod_lt _ (by omega)
      simp only [List.reverse_append, List.reverse_cons, List.reverse_nil, List.nil_append, List.singleton_append]
      rw [List.dropWhile_cons_of_neg]
      · simp
      · intro g
        have := congrArg UInt8.toNat (eq_of_beq g)
        simp at this
        omega
/-- The names of the units. -/
def nmL (j : Nat) : List UInt8 := ([[68], [72], [77], [83], [77, 83], [85, 83], [78, 83]] : List (List UInt8)).getD j []
theorem pN_nm (j : Nat) : pN j = ⟨(nmL j).toArray⟩ := by
  unfold pN nmL
  by_cases h : j < 7
  · rcases (by omega : j = 0 ∨ j = 1 ∨ j = 2 ∨ j = 3 ∨ j = 4 ∨ j = 5 ∨ j = 6) with rfl | rfl | rfl | rfl | rfl | rfl | rfl <;> rfl
  · rw [List.getD_eq_getElem?_getD, List.getElem?_eq_none (by show 7 ≤ j; omega), List.getD_eq_getElem?_getD, List.getElem?_eq_none (by show 7 ≤ j; omega)]; rfl
def pB (j : Nat) : Nat := ([0, 24, 60, 60, 1000, 1000, 1000] : List Nat).getD j 0
/-- The text, the sum and the order of parts of a span. -/
def ptT : List (Nat × Nat) → List UInt8
  | [] => []
  | (j, c) :: ps => Lib.decDigits c ++ (nmL j ++ ptT ps)
def ptS : List (Nat × Nat) → Nat
  | [] => 0
  | (j, c) :: ps => c * pL j + ptS ps
def ptOk : Nat → List (Nat × Nat) → Prop
  | _, [] => True
  | k, (j, c) :: ps => k ≤ j ∧ j < 7 ∧ (k = 0 ∨ c < pB j) ∧ c ≤ 106751 ∧ c * pL j ≤ 9223286400000000000 ∧ ptOk (j + 1) ps
/-- The parts of so many nanoseconds, of r units from the ith on. -/
def spP : Nat → Nat → Nat → List (Nat × Nat)
  | 0, _, _ => []
  | r + 1, l, i => if 0 < l / pL i then (i, l / pL i) :: spP r (l % pL i) (i + 1) else spP r (l % pL i) (i + 1)
theorem spP_succ (r l i : Nat) : spP (r + 1) l i = if 0 < l / pL i then (i, l / pL i) :: spP r (l % pL i) (i + 1) else spP r (l % pL i) (i + 1) := rfl
theorem ba_app (a b : ByteArray) : (a ++ b).data.toList = a.data.toList ++ b.data.toList := by
  rw [ByteArray.data_append]; simp
theorem spP_text (n : Nat) : ∀ (r i : Nat), (spT n i).data.toList ++ ptT (spP r (spL n i) i) = (spT n (i + r)).data.toList
  | 0, i => by simp [spP, ptT]
  | r + 1, i => by
    have ih := spP_text n r (i + 1)
    rw [show i + (r + 1) = i + 1 + r by omega, ← ih]
    show _ = (spT n (i + 1)).data.toList ++ ptT (spP r (spL n i % pL i) (i + 1))
    rw [spP_succ]
    split
    · next c =>
      rw [show spT n (i + 1) = spT n i ++ (decS (spL n i / pL i) ++ pN i) from if_pos c, ba_app, ba_app, pN_nm]
      simp [ptT, decS]
    · next c => rw [show spT n (i + 1) = spT n i from if_neg c]
theorem spP_sum : ∀ (r i l : Nat), i + (r + 1) = 7 → ptS (spP (r + 1) l i) = l
  | 0, i, l, h => by
    obtain rfl : i = 6 := by omega
    rw [spP_succ, show pL 6 = 1 from rfl]
    split
    · simp [spP, ptS, show pL 6 = 1 from rfl]
    · simp [spP, ptS]; omega
  | r + 1, i, l, h => by
    have ih := spP_sum r (i + 1) (l % pL i) (by omega)
    rw [spP_succ]
    have d := Nat.div_add_mod l (pL i)
    split
    · rw [ptS, ih, Nat.mul_comm]; exact d
    · next c =>
      rw [ih]
      have : l / pL i = 0 := Nat.eq_zero_of_not_pos c
      rw [this] at d; simpa using d
theorem pB_at (i : Nat) (h0 : 1 ≤ i) (h : i < 7) : pL (i - 1) = pB i * pL i ∧ pL (i - 1) ≤ 86400000000000 ∧ pB i ≤ 1000 := by
  rcases (by omega : i = 1 ∨ i = 2 ∨ i = 3 ∨ i = 4 ∨ i = 5 ∨ i = 6) with rfl | rfl | rfl | rfl | rfl | rfl <;> decide
theorem spP_ok : ∀ (r i l k : Nat), i + r = 7 → k ≤ i → (i = 0 ∧ l ≤ 9223372036854775808 ∨ 1 ≤ i ∧ l < pL (i - 1)) → ptOk k (spP r l i)
  | 0, i, l, k, _, _, _ => by simp [spP, ptOk]
  | r + 1, i, l, k, h, hk, hl => by
    have p := pL_bd i
    have ih := spP_ok r (i + 1) (l % pL i)
    have nx : l % pL i < pL (i + 1 - 1) := by rw [Nat.add_sub_cancel]; exact Nat.mod_lt _ (by omega)
    rw [spP_succ]
    split
    · next c =>
      have mle := Nat.div_mul_le_self l (pL i)
      refine ⟨hk, by omega, ?_, ?_, ?_, ih (i + 1) (by omega) (Nat.le_refl _) (Or.inr ⟨by omega, nx⟩)⟩
      · rcases hl with ⟨rfl, _⟩ | ⟨h1, h2⟩
        · left; omega
        · right
          rw [(pB_at i h1 (by omega)).1] at h2
          exact Nat.div_lt_of_lt_mul (by rwa [Nat.mul_comm] at h2)
      · rcases hl with ⟨rfl, h2⟩ | ⟨h1, h2⟩
        · rw [show pL 0 = 86400000000000 from rfl]; omega
        · have q := pB_at i h1 (by omega)
          rw [q.1] at h2
          have := Nat.div_lt_of_lt_mul (by rwa [Nat.mul_comm] at h2 : l < pL i * pB i)
          omega
      · rcases hl with ⟨rfl, h2⟩ | ⟨h1, h2⟩
        · rw [show pL 0 = 86400000000000 from rfl]; omega
        · have q := pB_at i h1 (by omega)
          omega
    · exact ih k (by omega) (by omega) (Or.inr ⟨by omega, nx⟩)
/-- What stands behind a part is none, or begins with a digit. -/
theorem ptT_head (ps : List (Nat × Nat)) : ps = [] ∨ ∃ (d : UInt8) (l : List UInt8), ptT ps = d :: l ∧ 48 ≤ d.toNat ∧ d.toNat ≤ 57 := by
  cases ps with
  | nil => left; rfl
  | cons p ps =>
    right
    obtain ⟨j, c⟩ := p
    have e : ptT ((j, c) :: ps) = Lib.decDigits c ++ (nmL j ++ ptT ps) := rfl
    rw [decLow_all] at e
    have := Lib.nDigits_pos c
    obtain ⟨m, hm⟩ : ∃ m, Lib.nDigits c = m + 1 := ⟨Lib.nDigits c - 1, by omega⟩
    rw [hm] at e
    have hd := dgV c m
    have d10 : c / 10 ^ m % 10 < 10 := Nat.mod_lt _ (by omega)
    exact ⟨Lib.dg c m, decLow m c ++ (nmL j ++ ptT ps), e, by omega, by omega⟩
theorem nm_head (j : Nat) (h : j < 7) (x : List UInt8) : ∃ (d : UInt8) (l : List UInt8), nmL j ++ x = d :: l ∧ 65 ≤ d.toNat ∧ d.toNat ≤ 90 := by
  rcases (by omega : j = 0 ∨ j = 1 ∨ j = 2 ∨ j = 3 ∨ j = 4 ∨ j = 5 ∨ j = 6) with rfl | rfl | rfl | rfl | rfl | rfl | rfl <;> exact ⟨_, _, rfl, by decide, by decide⟩
theorem run_none (p : Int → Bool) (d : UInt8) (l : List UInt8) (h : p d.toNat = false) : runT p (d :: l) = 0 := by simp [runT, h]
theorem run_nm (j : Nat) (h : j < 7) (x : List UInt8) : runT letT (nmL j ++ x) = (nmL j).length + runT letT x := by
  rcases (by omega : j = 0 ∨ j = 1 ∨ j = 2 ∨ j = 3 ∨ j = 4 ∨ j = 5 ∨ j = 6) with rfl | rfl | rfl | rfl | rfl | rfl | rfl <;> simp [nmL, runT, letT] <;> omega
theorem ext_list (s : ByteArray) (a b : Nat) : (s.extract a b).data.toList = (s.data.toList.take b).drop a := by
  rw [ByteArray.data_extract]
  simp [List.drop_take]
theorem ba_eq (s : ByteArray) (l : List UInt8) (h : s.data.toList = l) : s = ⟨l.toArray⟩ := by
  apply ByteArray.ext
  rw [← h]
theorem isEmpty_noT {x : ByteArray} (h : ¬ x.size = 0) : x.toList.isEmpty = false := by
  have e : x.toList.length = x.size := by rw [ByteArray.toList_eq]; simp
  cases hx : x.toList with
  | nil => rw [hx] at e; simp at e; omega
  | cons a l => rfl
set_option maxHeartbeats 1000000 in
theorem hasForm_yes (s f : ByteArray) (w : World) (hs : s.size ≤ maxLen) (e : s.size = f.size) (hp : ∀ (k : Nat) (h1 : k < s.size) (h2 : k < f.size), (f[k].toNat = 48 ∧ digT (s[k].toNat : Int) = true) ∨ (¬ f[k].toNat = 48 ∧ s[k].toNat = f[k].toNat)) : Calls Tryz.prog 39 #[.string s, .string f] w fun e w' => e = .returned (.bool true) ∧ Below w.heap.size w w' := by
  have hm : s.size ≤ 9223372036854775807 := hs
  have HP : Hid _ := hp
  clear hp
  go_enter Tryz.func39, Tryz.ntmps39
  have e' : (s.size : Int) = f.size := by omega
  have E : Hid (s.size = f.size) := e
  clear e
  go_wp2_with fail
  go_loopw [13] (fun v wr => (∃ k : Nat, k ≤ s.size ∧ v = .int .i64 k) ∧ Below w.heap.size w wr) (fun v _ => s.size - (intOf v).toNat)
  case atStart => exact ⟨⟨0, Nat.zero_le _, rfl⟩, Below.refl _ _⟩
  case round =>
    obtain ⟨⟨k, hk, rfl⟩, hB⟩ := hrel
    have B : Hid (Below w.heap.size w wr) := hB
    clear hB
    by_cases hlt : k < s.size
    · have hlf : k < f.size := by have := E.out; omega
      have i1 : (k : Int) < s.size := by omega
      have i2 : (k : Int) < f.size := by omega
      rcases HP.out k hlt hlf with ⟨c0, d⟩ | ⟨c0, c1⟩
      · have c0 : (f[k].toNat : Int) = 48 := by omega
        have D : Hid (∀ w, Calls Tryz.prog 42 #[.int .u8 (s[k].toNat : Int)] w fun e w' => e = .returned (.bool true) ∧ w' = w) := fun w => by
          have := isDigitT_of (s[k].toNat : Int) w
          rwa [d] at this
        clear d
        have c0' : ((f[k].toNat : Int) == 48) = true := by simpa using c0
        have c0'' : ((f[k].toNat : Int) != 48) = false := by simpa using c0
        have c0d : decide ((f[k].toNat : Int) = 48) = true := by simpa using c0
        go_wp2_with fail
        refine wp_region_sub2 (by kernel_rfl) (by kernel_rfl) ?_
        intro cx
        repeat (first | go_big_quiet_skip | (go_big_quiet_want; go_big_quiet_op; first | go_big_quiet_on | (refine ⟨_, fun _ => rfl, ?_⟩; go_big_quiet_on) | go_big_quiet_call (first | (go_at_call 42; exact calls_sub_same (D.out _)))))
        refine wpQuiet_nil ?_
        rintro _ ⟨x, rfl⟩
        clear cx
        go_wp2
        go_roundw
        case rel => exact ⟨⟨k + 1, by omega, by go_num⟩, B.out.trans (x.h.mono B.out.size)⟩
        case measure => simp [intOf]; omega
      · have c0 : ¬ (f[k].toNat : Int) = 48 := by omega
        have c1 : (s[k].toNat : Int) = f[k].toNat := by omega
        have c0' : ((f[k].toNat : Int) == 48) = false := by simpa using c0
        have c0'' : ((f[k].toNat : Int) != 48) = true := by simpa using c0
        have c0d : decide ((f[k].toNat : Int) = 48) = false := by simpa using c0
        go_wp2_with fail
        refine wp_region_sub2 (by kernel_rfl) (by kernel_rfl) ?_
        intro cx
        repeat (first | go_big_quiet_skip | (go_big_quiet_want; go_big_quiet_op; first | go_big_quiet_on | (refine ⟨_, fun _ => rfl, ?_⟩; go_big_quiet_on) | go_big_quiet_call (first | fail)))
        refine wpQuiet_nil ?_
        rintro _ ⟨x, rfl⟩
        clear cx
        go_wp2
        go_roundw
        case rel => exact ⟨⟨k + 1, by omega, by go_num⟩, B.out.trans (x.h.mono B.out.size)⟩
        case measure => simp [intOf]; omega
    · go_wp2
      go_returns
      exact ⟨rfl, B.out⟩
set_option maxHeartbeats 1000000 in
theorem field_is (s : ByteArray) (a b : Nat) (n : Int) (w : World) (hs : s.size ≤ maxLen) (ha : a ≤ b) (hb : b ≤ s.size) (hn : rnF (s.extract a b).data.toList 0 = some n) : Calls Tryz.prog 40 #[.string s, .int .i64 a, .int .i64 b] w fun e w' => e = .returned (.int .i64 n) ∧ w' = w := by
  have hm : s.size ≤ 9223372036854775807 := hs
  have R : Hid (∀ w, Calls Tryz.prog 71 #[.string (s.extract a b)] w fun e w' => e = .returned (.tuple #[.int .i64 n, .bool (!(s.extract a b).toList.isEmpty)]) ∧ w' = w) := fun w => by
    have := readNum_is (s.extract a b) w (by rw [ByteArray.size_extract]; omega)
    rwa [rnV, hn] at this
  clear hn
  go_enter Tryz.func40, Tryz.ntmps40
  go_wp2_with (go_at_call 71; refine (R.out _).mono ?_; rintro e w1 ⟨rfl, rfl⟩)
  go_ret
  exact ⟨rfl, rfl⟩
set_option maxHeartbeats 2000000 in
theorem cutPart_nodot (s : ByteArray) (w : World) (hs : s.size ≤ maxLen) (a y c r : ByteArray) (ea : s.extract 0 (cutN digT s) = a) (ey : s.extract (cutN digT s) s.size = y) (q : preB 46 y = false) (ec : y.extract 0 (cutN letT y) = c) (er : y.extract (cutN letT y) y.size = r) : Calls Tryz.prog 34 #[.string s] w fun e w' => e = .returned (.tuple #[.agg #[.string a, .string s0, .bool false, .string c], .string r]) ∧ Below w.heap.size w w' := by
  have C1 : Hid _ := fun w => cut_digit s w hs
  have k2 := ext_le s (cutN digT s) s.size
  rw [ea, ey] at C1
  rw [ey] at k2
  have hy : y.size ≤ maxLen := Nat.le_trans k2 hs
  have C2 : Hid _ := fun w => cutPre_of 46 y w hy
  have ay : aftB 46 y = y := by unfold aftB; rw [q]; rfl
  rw [ay, q] at C2
  have C4 : Hid _ := fun w => cut_letter y w hy
  rw [ec, er] at C4
  clear q ea ey ec er ay
  go_enter Tryz.func34, Tryz.ntmps34
  go_wp2_with fail
  refine (C1.out _).mono ?_
  rintro e w1 ⟨rfl, hb⟩
  obtain ⟨c0, c1, f0, f1, B1, z1⟩ := bb2 hb
  clear hb
  go_wp2_with (go_at_call 33; refine (C2.out _).mono ?_; rintro e w2 ⟨rfl, rfl⟩)
  refine (C4.out _).mono ?_
  rintro e w3 ⟨rfl, hb3⟩
  obtain ⟨d0, d1, g0, g1, z3⟩ := bb3 (h := w.heap.size) hb3 (by simpa using z1)
  go_wp2
  have B3 : Below w.heap.size w w3 := ((B1.setCell (by simp) _).setCell (by simp) _).trans (hb3.mono (by simp; omega))
  refine bodyPost_ret (v := .tuple #[.agg #[.string a, .string s0, .bool false, .string c], .string r]) (by simp [results, Tryz.results34, go_sem, d0, c0]) rfl ⟨rfl, ?_⟩
  go_grown
set_option maxHeartbeats 4000000 in
theorem nanos_is (a c un : ByteArray) (n l m : Int) (f : Bool) (ha : a.size ≤ maxLen) (hn : rnV a = .tuple #[.int .i64 n, .bool true]) (n0 : 0 ≤ n) (l0 : 1 ≤ l) (l1 : l ≤ 86400000000000) (fs : f = true ∨ f = false ∧ n < m) (g : n * l ≤ 9223372036854775807) (w : World) :
    Calls Tryz.prog 37 #[.agg #[.string a, .string s0, .bool false, .string c], .agg #[.string un, .int .i64 l, .int .i64 m], .bool f] w fun e w' => e = .returned (.tuple #[.int .i64 (n * l), .bool true]) ∧ Below w.heap.size w w' := by
  have R1 : Hid (∀ w, Calls Tryz.prog 71 #[.string a] w fun e w' => e = .returned (.tuple #[.int .i64 n, .bool true]) ∧ w' = w) := fun w => by
    have := readNum_is a w ha
    rwa [hn] at this
  have R2 : Hid (∀ w, Calls Tryz.prog 43 #[.string s0, .int .i64 l] w fun e w' => e = .returned (.tuple #[.int .i64 0, .bool true]) ∧ w' = w) := fun w => readFrac_is s0 l w (Nat.zero_le _) (by omega) l1
  have nl0 : 0 ≤ n * l := Int.mul_nonneg n0 (by omega)
  have gq : n ≤ 9223372036854775807 / l := by
    rw [Int.le_ediv_iff_mul_le (by omega)]; exact g
  have wn : wrap64 (n * l) = n * l := by unfold wrap64; omega
  clear hn
  rcases fs with rfl | ⟨rfl, f2⟩
  all_goals
    go_enter Tryz.func37, Tryz.ntmps37
    go_wp2_with (first
      | (go_at_call 71; refine (R1.out _).mono ?_; rintro e w1 ⟨rfl, rfl⟩)
      | (go_at_call 43; refine (R2.out _).mono ?_; rintro e w2 ⟨rfl, rfl⟩))
    go_returns
    refine ⟨?_, ((Below.refl _ _).alloc (Nat.le_refl _) _).alloc (by simp) _⟩
    simp
theorem uN_ne (j k : Nat) (hj : j < 7) (hk : k < 7) (h : k < j) : ((uN k).toList == (uN j).toList) = false := by
  rw [ByteArray.toList_eq, ByteArray.toList_eq]
  rcases (by omega : j = 0 ∨ j = 1 ∨ j = 2 ∨ j = 3 ∨ j = 4 ∨ j = 5 ∨ j = 6) with rfl | rfl | rfl | rfl | rfl | rfl | rfl <;>
  rcases (by omega : k = 0 ∨ k = 1 ∨ k = 2 ∨ k = 3 ∨ k = 4 ∨ k = 5 ∨ k = 6) with rfl | rfl | rfl | rfl | rfl | rfl | rfl <;> first | omega | decide
set_option maxHeartbeats 1000000 in
theorem findUnit_is (j a : Nat) (w : World) (u : UT7 w) (hj : j < 7) (ha : a ≤ j) : Calls Tryz.prog 35 #[.string (uN j), .int .i64 a] w fun e w' => e = .returned (.tuple #[.int .i64 j, .bool true]) ∧ w' = w := by
  have U : Hid (UT7 w) := u
  clear u
  go_enter Tryz.func35, Tryz.ntmps35
  go_wp2_with fail
  go_loop [6] (fun v => ∃ k : Nat, a ≤ k ∧ k ≤ j ∧ v = .int .i64 k) (fun v => 7 - (intOf v).toNat)
  case atStart => exact ⟨a, Nat.le_refl _, ha, rfl⟩
  case round =>
    obtain ⟨k, h1, h2, rfl⟩ := hrel
    have hlt : k < 7 := by omega
    have i1 : (k : Int) < 7 := by omega
    obtain ⟨c0, c1, c2⟩ := U.out k hlt
    by_cases e : k = j
    · subst e
      have q : ((uN k).toList == (uN k).toList) = true := by simp
      go_wp2
      go_returns
      exact ⟨rfl, rfl⟩
    · have q := uN_ne j k hj hlt (by omega)
      go_wp2
      go_round
      case rel => exact ⟨k + 1, by omega, by omega, by go_num⟩
      case measure => simp [intOf]; omega
end Go.Proofs.YtpdnlojennhmpaaGreatDoor
