/- What readDate, readClock and readBoth of times answer of texts as they are printed; no statement of the seat is proved here. -/
import Derived.Test.YtpdnlojennhmpaaGreatDoorBsA
import Derived.Test.YtpdnlojennhmpaaGreatDoorDaysB
import Derived.Test.YtpdnlojennhmpaaGreatDoorIx
import Derived.Test.YtpdnlojennhmpaaGreatDoorDtV
import Derived.Test.YtpdnlojennhmpaaGreatDoorClV
namespace Go.Proofs.YtpdnlojennhmpaaGreatDoor
set_option linter.unusedVariables false
open Go.RowKit
theorem tab_nextB {w w1 : World} (h : Tab w) (hb : Below w.heap.size w w1) : Tab w1 := fun m hm => (hb.cell (p := ⟨1, m, none⟩) (World.block_lt_of_cell? w ⟨1, 0, none⟩ (h 0 (by omega)))).trans (h m hm)
theorem dig_dg (n i : Nat) : digT ((Lib.dg n i).toNat : Int) = true := by
  have h := dgV n i
  have : n / 10 ^ i % 10 < 10 := Nat.mod_lt _ (by omega)
  unfold digT
  simp
  omega
/-- A date's ten signs, a clock's eight. -/
def dtB (y m d : Nat) : ByteArray := ⟨#[Lib.dg y 3, Lib.dg y 2, Lib.dg y 1, Lib.dg y 0, 45, Lib.dg m 1, Lib.dg m 0, 45, Lib.dg d 1, Lib.dg d 0]⟩
def ckB (h m s : Nat) : ByteArray := ⟨#[Lib.dg h 1, Lib.dg h 0, 58, Lib.dg m 1, Lib.dg m 0, 58, Lib.dg s 1, Lib.dg s 0]⟩
theorem hasForm_dt (y m d : Nat) (w : World) : Calls Tryz.prog 39 #[.string (dtB y m d), .string ⟨#[48, 48, 48, 48, 45, 48, 48, 45, 48, 48]⟩] w fun e w' => e = .returned (.bool true) ∧ Below w.heap.size w w' := by
  refine hasForm_yes _ _ w (by show 10 ≤ _; decide) rfl ?_
  intro k h1 h2
  have h10 : k < 10 := h1
  rcases (by omega : k = 0 ∨ k = 1 ∨ k = 2 ∨ k = 3 ∨ k = 4 ∨ k = 5 ∨ k = 6 ∨ k = 7 ∨ k = 8 ∨ k = 9) with rfl | rfl | rfl | rfl | rfl | rfl | rfl | rfl | rfl | rfl
  all_goals first
    | exact Or.inl ⟨rfl, dig_dg _ _⟩
    | exact Or.inr ⟨Nat.ne_of_beq_eq_false rfl, rfl⟩
theorem hasForm_ck (y m d : Nat) (w : World) : Calls Tryz.prog 39 #[.string (ckB y m d), .string ⟨#[48, 48, 58, 48, 48, 58, 48, 48]⟩] w fun e w' => e = .returned (.bool true) ∧ Below w.heap.size w w' := by
  refine hasForm_yes _ _ w (by show 8 ≤ _; decide) rfl ?_
  intro k h1 h2
  have h10 : k < 8 := h1
  rcases (by omega : k = 0 ∨ k = 1 ∨ k = 2 ∨ k = 3 ∨ k = 4 ∨ k = 5 ∨ k = 6 ∨ k = 7) with rfl | rfl | rfl | rfl | rfl | rfl | rfl | rfl
  all_goals first
    | exact Or.inl ⟨rfl, dig_dg _ _⟩
    | exact Or.inr ⟨Nat.ne_of_beq_eq_false rfl, rfl⟩
theorem rn_few (i u : Nat) (hu : u < 10 ^ i) (hi : u ≤ 9223372036854775807) : rnF (decLow i u) 0 = some (u : Int) := by
  have := rn_low i u 0 (by rw [Nat.mod_eq_of_lt hu]; omega)
  rw [Nat.mod_eq_of_lt hu] at this
  simpa using this
theorem field_few (s : ByteArray) (a b : Nat) (i u : Nat) (w : World) (hs : s.size ≤ maxLen) (ha : a ≤ b) (hb : b ≤ s.size) (he : (s.data.toList.take b).drop a = decLow i u) (hu : u < 10 ^ i) (hi : u ≤ 9223372036854775807) : Calls Tryz.prog 40 #[.string s, .int .i64 a, .int .i64 b] w fun e w' => e = .returned (.int .i64 u) ∧ w' = w :=
  field_is s a b u w hs ha hb (by rw [ext_list, he]; exact rn_few i u hu hi)
set_option maxRecDepth 100000 in
set_option maxHeartbeats 2000000 in
theorem readDate_is (y m d : Nat) (hy : y < 10000) (hm : m < 100) (hd : d < 100) (n : Int) (hn : DV y m d = .tuple #[.int .i64 n, .bool true]) (n0 : 0 ≤ n) (n1 : n < 84006) (w : World) (hT : Tab w) : Calls Tryz.prog 17 #[.string (dtB y m d)] w fun e w' => e = .returned (.tuple #[.int .i64 (n * 86400000000000), .bool true]) ∧ Below w.heap.size w w' := by
  have T : Hid (Tab w) := hT
  have HF : Hid _ := hasForm_dt y m d
  have Y : Hid (∀ w, Calls Tryz.prog 40 #[.string (dtB y m d), .int .i64 0, .int .i64 4] w fun e w' => e = .returned (.int .i64 y) ∧ w' = w) := fun w => field_few _ 0 4 4 y w (by show 10 ≤ _; decide) (by omega) (by show 4 ≤ 10; omega) rfl (by omega) (by omega)
  have M : Hid (∀ w, Calls Tryz.prog 40 #[.string (dtB y m d), .int .i64 5, .int .i64 7] w fun e w' => e = .returned (.int .i64 m) ∧ w' = w) := fun w => field_few _ 5 7 2 m w (by show 10 ≤ _; decide) (by omega) (by show 7 ≤ 10; omega) rfl (by omega) (by omega)
  have D : Hid (∀ w, Calls Tryz.prog 40 #[.string (dtB y m d), .int .i64 8, .int .i64 10] w fun e w' => e = .returned (.int .i64 d) ∧ w' = w) := fun w => field_few _ 8 10 2 d w (by show 10 ≤ _; decide) (by omega) (by show 10 ≤ 10; omega) rfl (by omega) (by omega)
  have DD : Hid (∀ w, Tab w → Calls Tryz.prog 14 #[.int .i64 y, .int .i64 m, .int .i64 d] w fun e w' => e = .returned (.tuple #[.int .i64 n, .bool true]) ∧ w' = w) := fun w h => by
    have := Days_of y m d w h
    rwa [hn] at this
  have h10 : (dtB y m d).size = 10 := rfl
  generalize dtB y m d = s at *
  clear hT hn
  go_enter Tryz.func17, Tryz.ntmps17
  go_wp2_with fail
  refine (HF.out _).mono ?_
  rintro e w1 ⟨rfl, hb⟩
  have B : Hid (Below w.heap.size w w1) := hb
  have T1 : Hid (Tab w1) := tab_nextB T.out hb
  clear hb
  go_wp2_with fail
  refine (Y.out _).mono ?_
  rintro e w2 ⟨rfl, rfl⟩
  go_wp2_with fail
  refine (M.out _).mono ?_
  rintro e w3 ⟨rfl, rfl⟩
  go_wp2_with fail
  refine (D.out _).mono ?_
  rintro e w4 ⟨rfl, rfl⟩
  go_wp2_with fail
  refine (DD.out _ T1.out).mono ?_
  rintro e w5 ⟨rfl, rfl⟩
  go_wp2
  go_returns
  exact ⟨rfl, B.out⟩
/-- strings.Cut at one byte, where it is not there, and where it is. -/
theorem iCut_no (s : ByteArray) (c : UInt8) (hi : Lib.indexByte s.data.toList c = -1) (w : World) : Calls Tryz.prog 15 #[.string s, .string ⟨#[c]⟩] w fun e w' => e = .returned (.tuple #[.string s, .string ⟨#[]⟩, .bool false]) ∧ Below w.heap.size w w' := by
  have I : Hid _ := Tryz.stringslite_Index_one s c
  rw [hi] at I
  clear hi
  go_enter Tryz.func15, Tryz.ntmps15
  go_wp2_with (go_at_call 32; refine (I.out _).mono ?_; rintro e w1 ⟨rfl, rfl⟩)
  go_returns
  exact ⟨rfl, Below.refl _ _⟩
theorem iCut_at (s : ByteArray) (c : UInt8) (j : Nat) (hs : s.size ≤ maxLen) (hi : Lib.indexByte s.data.toList c = j) (hj : j < s.size) (w : World) : Calls Tryz.prog 15 #[.string s, .string ⟨#[c]⟩] w fun e w' => e = .returned (.tuple #[.string (s.extract 0 j), .string (s.extract (j + 1) s.size), .bool true]) ∧ Below w.heap.size w w' := by
  have hm : s.size ≤ 9223372036854775807 := hs
  have I : Hid _ := Tryz.stringslite_Index_one s c
  rw [hi] at I
  clear hi
  go_enter Tryz.func15, Tryz.ntmps15
  go_wp2_with (go_at_call 32; refine (I.out _).mono ?_; rintro e w1 ⟨rfl, rfl⟩)
  go_quiet (fail)
  go_wp2
  go_returns
  exact ⟨rfl, bdN (Below.refl _ _) _⟩
theorem Cut_no (s : ByteArray) (c : UInt8) (hi : Lib.indexByte s.data.toList c = -1) (w : World) : Calls Tryz.prog 7 #[.string s, .string ⟨#[c]⟩] w fun e w' => e = .returned (.tuple #[.string s, .string ⟨#[]⟩, .bool false]) ∧ Below w.heap.size w w' := by
  have H : Hid _ := iCut_no s c hi
  clear hi
  go_enter Tryz.func7, Tryz.ntmps7
  go_wp2_with (go_at_call 15; refine (H.out _).mono ?_; rintro e w1 ⟨rfl, hb1⟩)
  go_returns
  exact ⟨rfl, hb1⟩
theorem Cut_at (s : ByteArray) (c : UInt8) (j : Nat) (hs : s.size ≤ maxLen) (hi : Lib.indexByte s.data.toList c = j) (hj : j < s.size) (w : World) : Calls Tryz.prog 7 #[.string s, .string ⟨#[c]⟩] w fun e w' => e = .returned (.tuple #[.string (s.extract 0 j), .string (s.extract (j + 1) s.size), .bool true]) ∧ Below w.heap.size w w' := by
  have H : Hid _ := iCut_at s c j hs hi hj
  clear hi
  generalize s.extract 0 j = a at *
  generalize s.extract (j + 1) s.size = b at *
  go_enter Tryz.func7, Tryz.ntmps7
  go_wp2_with (go_at_call 15; refine (H.out _).mono ?_; rintro e w1 ⟨rfl, hb1⟩)
  go_returns
  exact ⟨rfl, hb1⟩
set_option maxRecDepth 100000 in
set_option maxHeartbeats 4000000 in
theorem readClock_is (h m c : Nat) (hh : h < 24) (hm : m < 60) (hc : c < 60) (f : Nat) (hf : f < 1000000000) (s b x1 : ByteArray) (dot : Bool) (hb : b.size ≤ 9) (hd : dot = false ∨ dot = true ∧ b.toList.isEmpty = false) (C : ∀ w, Calls Tryz.prog 7 #[.string s, .string ⟨#[46]⟩] w fun e w' => e = .returned (.tuple #[.string (ckB h m c), .string b, .bool dot]) ∧ Below w.heap.size w w') (e1 : b.extract 0 (cutN digT b) = x1) (e2 : b.extract (cutN digT b) b.size = ⟨#[]⟩) (hF : rfV 1000000000 b = .tuple #[.int .i64 f, .bool true]) (w : World) :
    Calls Tryz.prog 18 #[.string s] w fun e w' => e = .returned (.tuple #[.int .i64 ((h : Int) * 3600000000000 + m * 60000000000 + c * 1000000000 + f), .bool true]) ∧ Below w.heap.size w w' := by
  have CC : Hid _ := C
  have hsb : b.size ≤ maxLen := by unfold maxLen; omega
  have C2 : Hid _ := fun w => cut_digit b w hsb
  rw [e1, e2] at C2
  have HF : Hid _ := hasForm_ck h m c
  have H : Hid (∀ w, Calls Tryz.prog 40 #[.string (ckB h m c), .int .i64 0, .int .i64 2] w fun e w' => e = .returned (.int .i64 h) ∧ w' = w) := fun w => field_few _ 0 2 2 h w (by show 8 ≤ _; decide) (by omega) (by show 2 ≤ 8; omega) rfl (by omega) (by omega)
  have M : Hid (∀ w, Calls Tryz.prog 40 #[.string (ckB h m c), .int .i64 3, .int .i64 5] w fun e w' => e = .returned (.int .i64 m) ∧ w' = w) := fun w => field_few _ 3 5 2 m w (by show 8 ≤ _; decide) (by omega) (by show 5 ≤ 8; omega) rfl (by omega) (by omega)
  have S : Hid (∀ w, Calls Tryz.prog 40 #[.string (ckB h m c), .int .i64 6, .int .i64 8] w fun e w' => e = .returned (.int .i64 c) ∧ w' = w) := fun w => field_few _ 6 8 2 c w (by show 8 ≤ _; decide) (by omega) (by show 8 ≤ 8; omega) rfl (by omega) (by omega)
  have F : Hid (∀ w, Calls Tryz.prog 43 #[.string b, .int .i64 1000000000] w fun e w' => e = .returned (.tuple #[.int .i64 f, .bool true]) ∧ w' = w) := fun w => by
    have := readFrac_is b 1000000000 w hsb (by omega) (by omega)
    rwa [hF] at this
  clear C e1 e2 hF
  have h8 : (ckB h m c).size = 8 := rfl
  generalize ckB h m c = a at *
  rcases hd with rfl | ⟨rfl, hd⟩
  all_goals
    go_enter Tryz.func18, Tryz.ntmps18
    go_wp2_with fail
    refine (CC.out _).mono ?_
    rintro e w1 ⟨rfl, hb1⟩
    have B1 : Hid (Below w.heap.size w w1) := hb1
    clear hb1
    go_wp2_with fail
    refine (C2.out _).mono ?_
    rintro e w2 ⟨rfl, hb2⟩
    have B2 : Hid (Below w.heap.size w w2) := B1.out.trans (hb2.mono B1.out.size)
    clear hb2
    go_wp2_with fail
    refine (HF.out _).mono ?_
    rintro e w3 ⟨rfl, hb3⟩
    have B3 : Hid (Below w.heap.size w w3) := B2.out.trans (hb3.mono B2.out.size)
    clear hb3
    go_wp2_with fail
    refine (H.out _).mono ?_
    rintro e w4 ⟨rfl, rfl⟩
    go_wp2_with fail
    refine (M.out _).mono ?_
    rintro e w5 ⟨rfl, rfl⟩
    go_wp2_with fail
    refine (S.out _).mono ?_
    rintro e w6 ⟨rfl, rfl⟩
    go_wp2_with fail
    refine (F.out _).mono ?_
    rintro e w7 ⟨rfl, rfl⟩
    go_wp2
    go_returns
    refine ⟨?_, B3.out⟩
    simp
    omega
set_option maxRecDepth 100000 in
set_option maxHeartbeats 2000000 in
theorem readBoth_is (s a b : ByteArray) (n m : Int) (hs : s.size ≤ 200) (h10 : 10 < s.size) (h45 : s[10].toNat = 45) (ea : s.extract 0 10 = a) (eb : s.extract 11 s.size = b) (n0 : 0 ≤ n ∧ n ≤ 7258118400000000000) (m0 : 0 ≤ m ∧ m < 86400000000000) (w : World) (D : ∀ w1, Below w.heap.size w w1 → Calls Tryz.prog 17 #[.string a] w1 fun e w' => e = .returned (.tuple #[.int .i64 n, .bool true]) ∧ Below w1.heap.size w1 w')
    (C : ∀ w1, Calls Tryz.prog 18 #[.string b] w1 fun e w' => e = .returned (.tuple #[.int .i64 m, .bool true]) ∧ Below w1.heap.size w1 w') :
    Calls Tryz.prog 19 #[.string s] w fun e w' => e = .returned (.tuple #[.int .i64 (n + m), .bool true]) ∧ Below w.heap.size w w' := by
  have DD : Hid _ := D
  have CC : Hid _ := C
  clear D C
  have i1 : (10 : Int) < s.size := by omega
  have h45' : (s[10].toNat : Int) = 45 := by omega
  have EA : Hid (s.extract 0 10 = a) := ea
  have EB : Hid (s.extract 11 s.size = b) := eb
  clear ea eb
  go_enter Tryz.func19, Tryz.ntmps19
  go_wp2_with fail
  rw [EA.out]
  refine (DD.out _ (Below.refl _ _)).mono ?_
  rintro e w1 ⟨rfl, hb1⟩
  have B1 : Hid (Below w.heap.size w w1) := hb1
  clear hb1
  go_wp2_with fail
  rw [EB.out]
  refine (CC.out _).mono ?_
  rintro e w2 ⟨rfl, hb2⟩
  have B2 : Hid (Below w.heap.size w w2) := B1.out.trans (hb2.mono B1.out.size)
  clear hb2
  go_wp2
  go_returns
  exact ⟨rfl, B2.out⟩
end Go.Proofs.YtpdnlojennhmpaaGreatDoor
