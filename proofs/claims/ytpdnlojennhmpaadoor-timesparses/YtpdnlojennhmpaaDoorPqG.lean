/- What readClock of times answers of every text; no statement of the seat is proved here. -/
import Derived.Test.YtpdnlojennhmpaaDoorPqF
namespace Go.Proofs.YtpdnlojennhmpaaDoor
set_option linter.unusedVariables false
open Go.RowKit
theorem qCut_no (s : ByteArray) (c : UInt8) (hi : Lib.indexByte s.data.toList c = -1) (w : World) : Calls Tryd.prog 23 #[.string s, .string ⟨#[c]⟩] w fun e w' => e = .returned (.tuple #[.string s, .string ⟨#[]⟩, .bool false]) ∧ Below w.heap.size w w' := by
  have H : Hid (∀ w, Calls Tryd.prog 52 #[.string s, .string ⟨#[c]⟩] w fun e w' => e = .returned (.tuple #[.string s, .string ⟨#[]⟩, .bool false]) ∧ Below w.heap.size w w') := fun w => by
    have I : Hid _ := Tryd.stringslite_Index_one s c
    rw [hi] at I
    clear hi
    go_enter Tryd.func52, Tryd.ntmps52
    go_wp2_with (go_at_call 71; refine (I.out _).mono ?_; rintro e w1 ⟨rfl, rfl⟩)
    go_returns
    exact ⟨rfl, Below.refl _ _⟩
  clear hi
  go_enter Tryd.func23, Tryd.ntmps23
  go_wp2_with (go_at_call 52; refine (H.out _).mono ?_; rintro e w1 ⟨rfl, hb1⟩)
  go_returns
  exact ⟨rfl, hb1⟩
theorem qCut_at (s : ByteArray) (c : UInt8) (j : Nat) (hs : s.size ≤ maxLen) (hi : Lib.indexByte s.data.toList c = j) (hj : j < s.size) (w : World) : Calls Tryd.prog 23 #[.string s, .string ⟨#[c]⟩] w fun e w' => e = .returned (.tuple #[.string (s.extract 0 j), .string (s.extract (j + 1) s.size), .bool true]) ∧ Below w.heap.size w w' := by
  have hm : s.size ≤ 9223372036854775807 := hs
  have H : Hid (∀ w, Calls Tryd.prog 52 #[.string s, .string ⟨#[c]⟩] w fun e w' => e = .returned (.tuple #[.string (s.extract 0 j), .string (s.extract (j + 1) s.size), .bool true]) ∧ Below w.heap.size w w') := fun w => by
    have I : Hid _ := Tryd.stringslite_Index_one s c
    rw [hi] at I
    clear hi
    go_enter Tryd.func52, Tryd.ntmps52
    go_wp2_with (go_at_call 71; refine (I.out _).mono ?_; rintro e w1 ⟨rfl, rfl⟩)
    go_quiet (fail)
    go_wp2
    go_returns
    exact ⟨rfl, bdN (Below.refl _ _) _⟩
  clear hi
  generalize s.extract 0 j = a at *
  generalize s.extract (j + 1) s.size = b at *
  go_enter Tryd.func23, Tryd.ntmps23
  go_wp2_with (go_at_call 52; refine (H.out _).mono ?_; rintro e w1 ⟨rfl, hb1⟩)
  go_returns
  exact ⟨rfl, hb1⟩
theorem fxN_two (l : List UInt8) (p : Nat) (h : fxP l p 2 = true) : 0 ≤ fxN l p 2 ∧ fxN l p 2 < 100 := by
  obtain ⟨a, b⟩ := (fxP_iff _ _ _).mp h
  have e : (l.take (p + 2)).drop p = (l.drop p).take 2 := by rw [List.drop_take, Nat.add_sub_cancel_left]
  unfold fxN
  rw [e]
  have hd := dig_AllD _ b
  have v := valR_lt ((l.drop p).take 2).reverse (fun c hc => hd c (List.mem_reverse.mp hc))
  have ln : ((l.drop p).take 2).length = 2 := by rw [List.length_take, List.length_drop]; omega
  rw [List.length_reverse, ln] at v
  have r := rn_val ((l.drop p).take 2) 0 hd (by omega)
  rw [show ((0 : Nat) : Int) = 0 from rfl] at r
  unfold rnN
  rw [r]
  simp only [Option.getD_some]
  omega
/-- What readClock asks of both parts of a text. -/
def rcB (la lb : List UInt8) (dot : Bool) : Bool := fmL la ckF && (decide (runT digT lb = lb.length) && (!(dot && lb.isEmpty) && decide (lb.length ≤ 9)))
def rcN (la lb : List UInt8) : Int := fxN la 0 2 * 3600000000000 + fxN la 3 2 * 60000000000 + fxN la 6 2 * 1000000000 + frN 1000000000 lb
def rcC (la : List UInt8) : Bool := decide (fxN la 0 2 < 24) && (decide (fxN la 3 2 < 60) && decide (fxN la 6 2 < 60))
set_option maxRecDepth 100000 in
set_option maxHeartbeats 4000000 in
theorem readClock_core (s a b : ByteArray) (dot : Bool) (ha : a.size ≤ maxLen) (hb : b.size ≤ maxLen) (hC : ∀ w, Calls Tryd.prog 23 #[.string s, .string ⟨#[46]⟩] w fun e w' => e = .returned (.tuple #[.string a, .string b, .bool dot]) ∧ Below w.heap.size w w') :
    ∃ z : Int, (rcB a.data.toList b.data.toList dot = true → z = rcN a.data.toList b.data.toList) ∧ (0 ≤ z ∧ z ≤ 400000000000000) ∧ ∀ w, Calls Tryd.prog 8 #[.string s] w fun e w' => e = .returned (.tuple #[.int .i64 z, .bool (rcB a.data.toList b.data.toList dot && rcC a.data.toList)]) ∧ Below w.heap.size w w' := by
  have C : Hid _ := hC
  have C2 : Hid _ := fun w => cut_digit b w hb
  have HF : Hid (∀ w, Calls Tryd.prog 20 #[.string a, .string ⟨#[48, 48, 58, 48, 48, 58, 48, 48]⟩] w fun e w' => e = .returned (.bool (fmL a.data.toList ckF)) ∧ Below w.heap.size w w') := fun w => hasForm_exact a ⟨#[48, 48, 58, 48, 48, 58, 48, 48]⟩ w ha
  have RE : Hid ((b.extract (cutN digT b) b.size).toList.isEmpty = decide (runT digT b.data.toList = b.data.toList.length)) := by
    show _ = _
    rw [q_empty, q_ext, q_all]
    have le := runT_le digT b.data.toList
    by_cases h : runT digT b.data.toList = b.data.toList.length
    · rw [decide_eq_true h]
      show (b.data.toList.drop (runT digT b.data.toList)).isEmpty = true
      rw [h, List.drop_length]
      rfl
    · rw [decide_eq_false h]
      show (b.data.toList.drop (runT digT b.data.toList)).isEmpty = false
      cases g : b.data.toList.drop (runT digT b.data.toList) with
      | nil => exact absurd (List.drop_eq_nil_iff.mp g) (by omega)
      | cons x y => rfl
  have BE : Hid (b.toList.isEmpty = b.data.toList.isEmpty) := q_empty b
  have BS : Hid (b.size = b.data.toList.length) := q_size b
  clear hC
  generalize b.extract 0 (cutN digT b) = x1 at *
  generalize b.extract (cutN digT b) b.size = x2 at *
  cases hq : rcB a.data.toList b.data.toList dot with
  | false =>
    refine ⟨0, (fun h => by cases h), by omega, fun w => ?_⟩
    have why : fmL a.data.toList ckF = false ∨ (fmL a.data.toList ckF = true ∧ (x2.toList.isEmpty = false ∨ (x2.toList.isEmpty = true ∧ ((dot = true ∧ b.toList.isEmpty = true) ∨ 9 < b.size)))) := by
      rw [RE.out, BE.out, BS.out]
      unfold rcB at hq
      cases h1 : fmL a.data.toList ckF with
      | false => left; rfl
      | true =>
        right
        refine ⟨rfl, ?_⟩
        rw [h1, Bool.true_and] at hq
        cases h2 : decide (runT digT b.data.toList = b.data.toList.length) with
        | false => left; rfl
        | true =>
          right
          refine ⟨rfl, ?_⟩
          rw [h2, Bool.true_and] at hq
          cases h3 : (dot && b.data.toList.isEmpty) with
          | true => left; simpa using h3
          | false =>
            right
            rw [h3] at hq
            simp at hq
            simpa using hq
    clear hq RE BE BS
    rcases why with h1 | ⟨h1, h2 | ⟨h2, ⟨h3, h4⟩ | h3⟩⟩
    all_goals
      rw [h1] at HF
      clear h1
      try subst h3
      go_enter Tryd.func8, Tryd.ntmps8
      go_wp2_with fail
      refine (C.out _).mono ?_
      rintro e w1 ⟨rfl, hb1⟩
      have B1 : Hid (Below w.heap.size w w1) := hb1
      clear hb1
      go_wp2_with fail
      refine (C2.out _).mono ?_
      rintro e w2 ⟨rfl, hb2⟩
      have B2 : Hid (Below w.heap.size w w2) := B1.out.trans (hb2.mono B1.out.size)
      clear hb2
      go_wp2_with fail
      refine (HF.out _).mono ?_
      rintro e w3 ⟨rfl, hb3⟩
      have B3 : Hid (Below w.heap.size w w3) := B2.out.trans (hb3.mono B2.out.size)
      clear hb3
      go_wp2
      all_goals
        go_returns
        exact ⟨rfl, B3.out⟩
  | true =>
    unfold rcB at hq
    simp only [Bool.and_eq_true, decide_eq_true_eq] at hq
    obtain ⟨h1, h2, h3, h4⟩ := hq
    have er : x2.toList.isEmpty = true := by rw [RE.out, decide_eq_true h2]
    have bz : b.size ≤ 9 := by rw [BS.out]; exact h4
    have dd : dot = false ∨ dot = true ∧ b.toList.isEmpty = false := by
      rw [BE.out]
      cases dot with
      | false => left; rfl
      | true => right; simpa using h3
    have a8 : a.data.toList.length = 8 := fmL_len _ _ h1
    have az : a.size = 8 := by rw [q_size]; exact a8
    have cf := ck_form a.data.toList
    rw [List.take_of_length_le (by omega), h1] at cf
    have cf2 := cf.symm
    simp only [Bool.and_eq_true] at cf2
    obtain ⟨f0, f3, f6, _, _⟩ := cf2
    rw [h1] at HF
    have Hh : Hid (∀ w, Calls Tryd.prog 22 #[.string a, .int .i64 0, .int .i64 2] w fun e w' => e = .returned (.int .i64 (fxN a.data.toList 0 2)) ∧ w' = w) := fun w => field_dt a 0 2 ha (by omega) (by omega) f0 w
    have Mm : Hid (∀ w, Calls Tryd.prog 22 #[.string a, .int .i64 3, .int .i64 5] w fun e w' => e = .returned (.int .i64 (fxN a.data.toList 3 2)) ∧ w' = w) := fun w => field_dt a 3 2 ha (by omega) (by omega) f3 w
    have Ss : Hid (∀ w, Calls Tryd.prog 22 #[.string a, .int .i64 6, .int .i64 8] w fun e w' => e = .returned (.int .i64 (fxN a.data.toList 6 2)) ∧ w' = w) := fun w => field_dt a 6 2 ha (by omega) (by omega) f6 w
    have b0 := fxN_two _ _ f0
    have b3 := fxN_two _ _ f3
    have b6 := fxN_two _ _ f6
    have AD := run_full _ h2
    have fn : 0 ≤ frN 1000000000 b.data.toList ∧ frN 1000000000 b.data.toList < 1000000000 := by
      by_cases e : b.data.toList = []
      · rw [e, frN_none]; omega
      · exact frN_nine _ AD ⟨List.length_pos_iff.mpr e, h4⟩
    have F : Hid (∀ w, Calls Tryd.prog 26 #[.string b, .int .i64 1000000000] w fun e w' => e = .returned (.tuple #[.int .i64 (frN 1000000000 b.data.toList), .bool true]) ∧ w' = w) := fun w => by
      have q := readFrac_is b 1000000000 w hb (by omega) (by omega)
      have r := rfV_q 1000000000 b.data.toList AD
      rw [frO_nine _ h4, ← q_eq b _ rfl] at r
      have r2 : rfV 1000000000 b = .tuple #[.int .i64 (frN 1000000000 b.data.toList), .bool true] := r
      rwa [r2] at q
    unfold rcN rcC
    clear RE BE BS h1 h2 h3 h4 cf f0 f3 f6 AD a8
    generalize frN 1000000000 b.data.toList = f at *
    generalize fxN a.data.toList 0 2 = h at *
    generalize fxN a.data.toList 3 2 = m at *
    generalize fxN a.data.toList 6 2 = x at *
    refine ⟨h * 3600000000000 + m * 60000000000 + x * 1000000000 + f, (fun _ => rfl), by omega, fun w => ?_⟩
    have hc : (h < 24 ∧ m < 60 ∧ x < 60) ∨ (h < 24 ∧ m < 60 ∧ ¬ x < 60) ∨ (h < 24 ∧ ¬ m < 60) ∨ ¬ h < 24 := by omega
    rcases hc with ⟨c1, c2, c3⟩ | ⟨c1, c2, c3⟩ | ⟨c1, c2⟩ | c1
    all_goals
      rcases dd with rfl | ⟨rfl, de⟩
    all_goals
      go_enter Tryd.func8, Tryd.ntmps8
      go_wp2_with fail
      refine (C.out _).mono ?_
      rintro e w1 ⟨rfl, hb1⟩
      have B1 : Hid (Below w.heap.size w w1) := hb1
      clear hb1
      go_wp2_with fail
      refine (C2.out _).mono ?_
      rintro e w2 ⟨rfl, hb2⟩
      have B2 : Hid (Below w.heap.size w w2) := B1.out.trans (hb2.mono B1.out.size)
      clear hb2
      go_wp2_with fail
      refine (HF.out _).mono ?_
      rintro e w3 ⟨rfl, hb3⟩
      have B3 : Hid (Below w.heap.size w w3) := B2.out.trans (hb3.mono B2.out.size)
      clear hb3
      go_wp2_with fail
      refine (Hh.out _).mono ?_
      rintro e w4 ⟨rfl, rfl⟩
      go_wp2_with fail
      refine (Mm.out _).mono ?_
      rintro e w5 ⟨rfl, rfl⟩
      go_wp2_with fail
      refine (Ss.out _).mono ?_
      rintro e w6 ⟨rfl, rfl⟩
      go_wp2_with fail
      refine (F.out _).mono ?_
      rintro e w7 ⟨rfl, rfl⟩
      go_wp2
      go_returns
      refine ⟨?_, B3.out⟩
      simp [c1]
      try omega
theorem fxN_take (l : List UInt8) (p n k : Nat) (h : p + n ≤ k) : fxN (l.take k) p n = fxN l p n := by
  unfold fxN
  rw [List.take_take, show min (p + n) k = p + n by omega]
theorem readClock_exact (s : ByteArray) (hs : s.size ≤ 140737488355328) : ∃ z : Int, (ckOk s.data.toList = true → z = ckN s.data.toList) ∧ (0 ≤ z ∧ z ≤ 400000000000000) ∧ ∀ w, Calls Tryd.prog 8 #[.string s] w fun e w' => e = .returned (.tuple #[.int .i64 z, .bool (ckOk s.data.toList)]) ∧ Below w.heap.size w w' := by
  have hml : s.size ≤ maxLen := by unfold maxLen; omega
  have SL : s.data.toList.length = s.size := by simp
  by_cases hi : Lib.indexByte s.data.toList 46 = -1
  · obtain ⟨z, h1, h2, h3⟩ := readClock_core s s ⟨#[]⟩ false hml (Nat.zero_le _) (fun w => qCut_no s 46 hi w)
    have nd := idx_no 46 _ hi
    have e : rcB s.data.toList [] false = (fmL (s.data.toList.take 8) ckF && ckT (s.data.toList.drop 8)) := by
      rw [ck_cut_no _ nd]
      simp [rcB, runT]
    have eo : (rcB s.data.toList [] false && rcC s.data.toList) = ckOk s.data.toList := by
      rw [e, ckOk, rcC, Bool.and_assoc]
    refine ⟨z, fun h => ?_, h2, fun w => ?_⟩
    · rw [← eo, Bool.and_eq_true] at h
      rw [h1 h.1]
      have q := h.1
      unfold rcB at q
      simp only [Bool.and_eq_true] at q
      have l8 : s.data.toList.length = 8 := fmL_len _ _ q.1
      unfold rcN ckN
      rw [List.drop_eq_nil_of_le (by omega)]
    · have := h3 w
      rwa [eo] at this
  · obtain ⟨j, hj⟩ : ∃ j : Nat, Lib.indexByte s.data.toList 46 = j := ⟨(Lib.indexByte s.data.toList 46).toNat, by have := Lib.indexByte_ge s.data.toList 46; omega⟩
    obtain ⟨el, hn, jl⟩ := idx_yes 46 _ j hj
    rw [SL] at jl
    obtain ⟨z, h1, h2, h3⟩ := readClock_core s (s.extract 0 j) (s.extract (j + 1) s.size) true (Nat.le_trans (ext_le _ _ _) hml) (Nat.le_trans (ext_le _ _ _) hml) (fun w => qCut_at s 46 j hml hj jl w)
    have ea : (s.extract 0 j).data.toList = s.data.toList.take j := by rw [q_ext]; rfl
    have eb : (s.extract (j + 1) s.size).data.toList = s.data.toList.drop (j + 1) := by rw [q_ext, q_all]
    rw [ea, eb] at h1 h3
    have e : rcB (s.data.toList.take j) (s.data.toList.drop (j + 1)) true = (fmL (s.data.toList.take 8) ckF && ckT (s.data.toList.drop 8)) := by
      rw [ck_cut_at _ j el hn (by omega)]
      unfold rcB
      have t : (!(true && (s.data.toList.drop (j + 1)).isEmpty)) = decide (1 ≤ (s.data.toList.drop (j + 1)).length) := by
        cases s.data.toList.drop (j + 1) <;> simp
      rw [t]
    have j8 : rcB (s.data.toList.take j) (s.data.toList.drop (j + 1)) true = true → j = 8 := fun q => by
      unfold rcB at q
      simp only [Bool.and_eq_true] at q
      have : (s.data.toList.take j).length = 8 := fmL_len _ _ q.1
      rw [List.length_take] at this
      omega
    have eo : (rcB (s.data.toList.take j) (s.data.toList.drop (j + 1)) true && rcC (s.data.toList.take j)) = ckOk s.data.toList := by
      cases q : rcB (s.data.toList.take j) (s.data.toList.drop (j + 1)) true with
      | false => rw [q] at e; unfold ckOk; rw [← Bool.and_assoc, ← e]; rfl
      | true =>
        rw [q] at e
        have e2 := e.symm
        rw [Bool.and_eq_true] at e2
        unfold ckOk rcC
        rw [e2.1, e2.2, j8 q, fxN_take _ 0 2 8 (by omega), fxN_take _ 3 2 8 (by omega), fxN_take _ 6 2 8 (by omega)]
        simp
    refine ⟨z, fun h => ?_, h2, fun w => ?_⟩
    · rw [← eo, Bool.and_eq_true] at h
      rw [h1 h.1, j8 h.1]
      unfold rcN ckN
      rw [fxN_take _ 0 2 8 (by omega), fxN_take _ 3 2 8 (by omega), fxN_take _ 6 2 8 (by omega)]
    · have := h3 w
      rwa [eo] at this
end Go.Proofs.YtpdnlojennhmpaaDoor
