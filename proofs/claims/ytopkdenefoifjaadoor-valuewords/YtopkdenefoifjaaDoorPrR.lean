/- What the document's Print answers of every value; no statement of the seat is proved here. -/
import Derived.Test.YtopkdenefoifjaaDoorPrW
import Derived.Test.YtopkdenefoifjaaDoorHexR
import Derived.Test.YtopkdenefoifjaaDoorIt
import Derived.Test.YtopkdenefoifjaaDoorTurnS
import Derived.Lib.ItoaMem
namespace Go.Proofs.YtopkdenefoifjaaDoor
set_option linter.unusedVariables false
open Go.RowKit
set_option maxHeartbeats 1000000 in
theorem pUnsignedR_is (k : Int) (w : World) (p : Bool) (hk : 0 ≤ k ∧ k < 256) (h : p = decide (6 ≤ k ∧ k ≤ 9)) : Calls Tryd.prog 21 #[.int .u8 k] w fun e w' => e = .returned (.bool p) ∧ w' = w := by
  subst h
  rcases kinds k hk with rfl | rfl | rfl | rfl | rfl | rfl | rfl | rfl | rfl | rfl | rfl | rfl | rfl | rfl | rfl | rfl | rfl | rfl | rfl | rfl | hk2
  all_goals
    go_enter Tryd.func21, Tryd.ntmps21
    go_wp2
    go_ret
    exact ⟨ret_bool (by first | rfl | (symm; simp; omega) | (rw [Bool.eq_iff_iff]; simp; omega)), rfl⟩
set_option maxHeartbeats 1000000 in
theorem pRowR_is (k : Int) (w : World) (p : Bool) (hk : 0 ≤ k ∧ k < 256) (h : p = decide (10 ≤ k ∧ k ≤ 13)) : Calls Tryd.prog 20 #[.int .u8 k] w fun e w' => e = .returned (.bool p) ∧ w' = w := by
  subst h
  rcases kinds k hk with rfl | rfl | rfl | rfl | rfl | rfl | rfl | rfl | rfl | rfl | rfl | rfl | rfl | rfl | rfl | rfl | rfl | rfl | rfl | rfl | hk2
  all_goals
    go_enter Tryd.func20, Tryd.ntmps20
    go_wp2
    go_ret
    exact ⟨ret_bool (by first | rfl | (symm; simp; omega) | (rw [Bool.eq_iff_iff]; simp; omega)), rfl⟩
theorem pgrow_below (w : World) (k : Nat) (os : Array Obj) : Below w.heap.size w (Go.Sort.grow (w.drewN k) os) :=
  ⟨rfl, rfl, rfl, by show w.heap.size ≤ (Go.Sort.grow (w.drewN k) os).heap.size; simp, fun j hj => Go.Sort.heap_grow_old (w.drewN k) os hj⟩
theorem itoa_pnS (n : Int) : (⟨(Lib.itoa n).toArray⟩ : ByteArray) = pnS n := by
  unfold Lib.itoa pnS decS
  split
  · apply ByteArray.ext; rw [ByteArray.data_append]; simp
  · rw [show n.toNat = n.natAbs by omega]
theorem w64 (b : Int) : IntKind.i64.wrap b = wrap64 b := by
  rw [IntKind.wrap_i64]; unfold wrap64; omega
section
variable (k b : Int) (s : ByteArray) (w : World)
abbrev MayD (p : Bool) : Prop := ∀ w, Calls Tryd.prog 18 #[V k b s] w fun e w' => e = .returned (.bool p) ∧ Below w.heap.size w w'
set_option maxRecDepth 100000 in
set_option maxHeartbeats 2000000 in
theorem prR_no (M : Hid (MayD k b s false)) : Calls Tryd.prog 9 #[V k b s] w fun e w' => e = .returned (.string E0) ∧ Below w.heap.size w w' := by
  go_enter Tryd.func9, Tryd.ntmps9
  go_wp2_with fail
  refine (M.out _).mono ?_
  rintro e w1 ⟨rfl, hb⟩
  have B : Hid (Below w.heap.size w w1) := ((Below.refl _ _).alloc (Nat.le_refl _) _).trans (hb.mono (by simp))
  clear hb
  go_wp2
  go_ret
  exact ⟨rfl, B.out⟩
set_option maxRecDepth 100000 in
set_option maxHeartbeats 2000000 in
theorem prR_bool (M : Hid (MayD 1 b s true)) : Calls Tryd.prog 9 #[V 1 b s] w fun e w' => e = .returned (.string (if b = 1 then ⟨#[84, 82, 85, 69]⟩ else ⟨#[70, 65, 76, 83, 69]⟩)) ∧ Below w.heap.size w w' := by
  by_cases b1 : b = 1
  · subst b1
    rw [if_pos rfl]
    go_enter Tryd.func9, Tryd.ntmps9
    go_wp2_with fail
    refine (M.out _).mono ?_
    rintro e w1 ⟨rfl, hb⟩
    have B : Hid (Below w.heap.size w w1) := ((Below.refl _ _).alloc (Nat.le_refl _) _).trans (hb.mono (by simp))
    obtain ⟨l0, c00, c01, c02⟩ := (Lies.new w 1 1 s _).next hb
    clear hb
    go_wp2
    go_ret
    exact ⟨rfl, B.out⟩
  · rw [if_neg b1]
    have f1 : (b == 1) = false := by simpa using b1
    go_enter Tryd.func9, Tryd.ntmps9
    go_wp2_with fail
    refine (M.out _).mono ?_
    rintro e w1 ⟨rfl, hb⟩
    have B : Hid (Below w.heap.size w w1) := ((Below.refl _ _).alloc (Nat.le_refl _) _).trans (hb.mono (by simp))
    obtain ⟨l0, c00, c01, c02⟩ := (Lies.new w 1 b s _).next hb
    clear hb
    go_wp2
    go_ret
    exact ⟨rfl, B.out⟩
set_option maxRecDepth 100000 in
set_option maxHeartbeats 2000000 in
theorem prR_text (M : Hid (MayD 19 b s true)) : Calls Tryd.prog 9 #[V 19 b s] w fun e w' => e = .returned (.string s) ∧ Below w.heap.size w w' := by
  go_enter Tryd.func9, Tryd.ntmps9
  go_wp2_with fail
  refine (M.out _).mono ?_
  rintro e w1 ⟨rfl, hb⟩
  have B : Hid (Below w.heap.size w w1) := ((Below.refl _ _).alloc (Nat.le_refl _) _).trans (hb.mono (by simp))
  obtain ⟨l0, c00, c01, c02⟩ := (Lies.new w 19 b s _).next hb
  clear hb
  go_wp2
  go_ret
  exact ⟨rfl, B.out⟩
set_option maxRecDepth 100000 in
set_option maxHeartbeats 2000000 in
theorem prR_hex (hk : k = 18 ∨ 10 ≤ k ∧ k ≤ 13) (least : Int) (hl : least = if k = 18 then 16 else 1) (d : ByteArray) (hd : d.size ≤ 16) (H : Hid (∀ w, Calls Tryd.prog 19 #[.int .u64 b, .int .i64 least] w fun e w' => e = .returned (.string d) ∧ Below w.heap.size w w')) (M : Hid (MayD k b s true)) :
    Calls Tryd.prog 9 #[V k b s] w fun e w' => e = .returned (.string (h16 ++ d)) ∧ Below w.heap.size w w' := by
  have f1 : (k == 1) = false := by simp; omega
  have f19 : (k == 19) = false := by simp; omega
  by_cases k18 : k = 18
  · subst k18
    rw [if_pos rfl] at hl
    subst hl
    go_enter Tryd.func9, Tryd.ntmps9
    go_wp2_with fail
    refine (M.out _).mono ?_
    rintro e w1 ⟨rfl, hb⟩
    have B : Hid (Below w.heap.size w w1) := ((Below.refl _ _).alloc (Nat.le_refl _) _).trans (hb.mono (by simp))
    obtain ⟨l0, c00, c01, c02⟩ := (Lies.new w 18 b s _).next hb
    clear hb
    go_wp2_with fail
    refine (H.out _).mono ?_
    rintro e w3 ⟨rfl, hb⟩
    have B3 : Hid (Below w.heap.size w w3) := B.out.trans (hb.mono B.out.size)
    clear hb
    go_wp2
    go_ret
    exact ⟨rfl, B3.out⟩
  · rw [if_neg k18] at hl
    subst hl
    have f18 : (k == 18) = false := by simpa using k18
    go_enter Tryd.func9, Tryd.ntmps9
    go_wp2_with fail
    refine (M.out _).mono ?_
    rintro e w1 ⟨rfl, hb⟩
    have B : Hid (Below w.heap.size w w1) := ((Below.refl _ _).alloc (Nat.le_refl _) _).trans (hb.mono (by simp))
    obtain ⟨l0, c00, c01, c02⟩ := (Lies.new w k b s _).next hb
    clear hb
    go_wp2_with fail
    refine (pRowR_is k _ true (by omega) (by symm; simp; omega)).mono ?_
    rintro e w2 ⟨rfl, rfl⟩
    go_wp2_with fail
    refine (H.out _).mono ?_
    rintro e w3 ⟨rfl, hb⟩
    have B3 : Hid (Below w.heap.size w w3) := B.out.trans (hb.mono B.out.size)
    clear hb
    go_wp2
    go_ret
    exact ⟨rfl, B3.out⟩
set_option maxRecDepth 100000 in
set_option maxHeartbeats 2000000 in
theorem prR_u (hP : Pow w) (h0 : 0 ≤ b) (h1 : b < 18446744073709551616) (hk : 6 ≤ k ∧ k ≤ 9) (M : Hid (MayD k b s true)) :
    Calls Tryd.prog 9 #[V k b s] w fun e w' => e = .returned (.string (pnS b)) ∧ Below w.heap.size w w' := by
  have f1 : (k == 1) = false := by simp; omega
  have f19 : (k == 19) = false := by simp; omega
  have f18 : (k == 18) = false := by simp; omega
  have F : Hid (∀ w, Pow w → Calls Tryd.prog 22 #[.int .u64 b, .int .i64 10] w fun e w' => e = .returned (.string (pnS b)) ∧ Below w.heap.size w w') := fun w h => by
    have := FormatUint_of b.toNat (by omega) w h
    rw [show ((b.toNat : Nat) : Int) = b by omega] at this
    have e : (⟨(Lib.decDigits b.toNat).toArray⟩ : ByteArray) = pnS b := by
      unfold pnS decS; rw [if_neg (by omega), show b.natAbs = b.toNat by omega]
    rwa [e] at this
  have HP : Hid (Pow w) := hP
  clear hP
  generalize pnS b = t at *
  go_enter Tryd.func9, Tryd.ntmps9
  go_wp2_with fail
  refine (M.out _).mono ?_
  rintro e w1 ⟨rfl, hb⟩
  have B : Hid (Below w.heap.size w w1) := ((Below.refl _ _).alloc (Nat.le_refl _) _).trans (hb.mono (by simp))
  have P1 : Hid (Pow w1) := pow_below HP.out B.out
  obtain ⟨l0, c00, c01, c02⟩ := (Lies.new w k b s _).next hb
  clear hb
  go_wp2_with (first
    | (go_at_call 20; refine (pRowR_is k _ false (by omega) (by symm; simp; omega)).mono ?_; rintro e w2 ⟨rfl, rfl⟩)
    | (go_at_call 21; refine (pUnsignedR_is k _ true (by omega) (by symm; simp; omega)).mono ?_; rintro e w2 ⟨rfl, rfl⟩)
    | (go_at_call 22; refine (F.out _ P1.out).mono ?_; rintro e w4 ⟨rfl, hb4⟩))
  go_ret
  exact ⟨rfl, B.out.trans (hb4.mono B.out.size)⟩
set_option maxRecDepth 100000 in
set_option maxHeartbeats 2000000 in
theorem prR_s (n : Int) (hP : Pow w) (h0 : 0 ≤ b) (h1 : b < 18446744073709551616) (hk : 2 ≤ k ∧ k ≤ 5 ∨ 14 ≤ k ∧ k ≤ 17) (hn : IntKind.i64.wrap b = n) (n0 : -9223372036854775808 ≤ n) (n1 : n ≤ 9223372036854775807) (M : Hid (MayD k b s true)) :
    Calls Tryd.prog 9 #[V k b s] w fun e w' => e = .returned (.string (pnS n)) ∧ Below w.heap.size w w' := by
  have f1 : (k == 1) = false := by simp; omega
  have f19 : (k == 19) = false := by simp; omega
  have f18 : (k == 18) = false := by simp; omega
  have F : Hid (∀ w, Pow w → Calls Tryd.prog 23 #[.int .i64 n] w fun e w' => e = .returned (.string (pnS n)) ∧ Below w.heap.size w w') := fun w h => by
    have := Tryd.strconv_Itoa n n0 n1 w h
    rw [itoa_pnS] at this
    refine this.mono ?_
    rintro e w' ⟨rfl, k, os, rfl⟩
    exact ⟨rfl, pgrow_below _ _ _⟩
  have HP : Hid (Pow w) := hP
  clear hP
  generalize pnS n = t at *
  go_enter Tryd.func9, Tryd.ntmps9
  go_wp2_with fail
  refine (M.out _).mono ?_
  rintro e w1 ⟨rfl, hb⟩
  have B : Hid (Below w.heap.size w w1) := ((Below.refl _ _).alloc (Nat.le_refl _) _).trans (hb.mono (by simp))
  have P1 : Hid (Pow w1) := pow_below HP.out B.out
  obtain ⟨l0, c00, c01, c02⟩ := (Lies.new w k b s _).next hb
  clear hb
  go_wp2_with (first
    | (go_at_call 20; refine (pRowR_is k _ false (by omega) (by symm; simp; omega)).mono ?_; rintro e w2 ⟨rfl, rfl⟩)
    | (go_at_call 21; refine (pUnsignedR_is k _ false (by omega) (by symm; simp; omega)).mono ?_; rintro e w2 ⟨rfl, rfl⟩)
    | (go_at_call 23; refine (F.out _ P1.out).mono ?_; rintro e w4 ⟨rfl, hb4⟩))
  go_ret
  exact ⟨rfl, B.out.trans (hb4.mono B.out.size)⟩
theorem PrintD_of (hP : Pow w) (h0 : 0 ≤ b) (h1 : b < 18446744073709551616) (hk : 0 ≤ k ∧ k < 256) (hs : s.size ≤ maxLen) :
    Calls Tryd.prog 9 #[V k b s] w fun e w' => e = .returned (.string (prS k b s)) ∧ Below w.heap.size w w' := by
  have M : Hid (MayD k b s (may3 k b s)) := fun w => MayR_of k b s w h0 h1 hk hs
  unfold prS
  cases m : may3 k b s with
  | false => rw [m] at M; rw [if_pos rfl]; exact prR_no k b s w M
  | true =>
    have K := may_kinds k b s m hk
    rw [m] at M
    rw [if_neg (by simp)]
    by_cases k19 : k = 19
    · subst k19; rw [if_pos rfl]; exact prR_text b s w M
    rw [if_neg k19]
    by_cases k1 : k = 1
    · subst k1; rw [if_pos rfl]; exact prR_bool b s w M
    rw [if_neg k1]
    have u64 : b.toNat < 18446744073709551616 := by omega
    have dl := hexDig_le b.toNat u64
    have hb : ((b.toNat : Nat) : Int) = b := by omega
    by_cases k18 : k = 18
    · rw [if_pos k18]
      refine prR_hex k b s w (.inl k18) 16 (by rw [if_pos k18]) _ (by rw [hexS_size]; omega) (fun w => ?_) M
      have := hexR_of b.toNat 16 u64 (by omega) (by omega) w
      rwa [hb] at this
    rw [if_neg k18]
    by_cases kr : 10 ≤ k ∧ k ≤ 13
    · rw [if_pos kr]
      refine prR_hex k b s w (.inr kr) 1 (by rw [if_neg k18]) _ (by rw [hexS_size]; omega) (fun w => ?_) M
      have := hexR_of b.toNat 1 u64 (by omega) (by omega) w
      rwa [hb] at this
    rw [if_neg kr]
    by_cases ku : 6 ≤ k ∧ k ≤ 9
    · rw [num_u (by omega)]; exact prR_u k b s w hP h0 h1 ku M
    · have nb := num_bd k b h0 h1
      have hn : IntKind.i64.wrap b = num k b ∧ num k b ≤ 9223372036854775807 := by
        by_cases ks : 2 ≤ k ∧ k ≤ 5 ∨ k = 14
        · rw [num_s ks]; exact ⟨w64 b, by have := wrap64_bd b; omega⟩
        · rw [num_u ks]
          have bb : b < 9223372036854775808 := by
            have : k = 15 ∨ k = 16 ∨ k = 17 := by omega
            rcases this with rfl | rfl | rfl <;> (simp [may3, mayW] at m; omega)
          refine ⟨?_, by omega⟩
          rw [w64]
          unfold wrap64; omega
      exact prR_s k b s w _ hP h0 h1 (by omega) hn.1 nb.1 hn.2 M
end
end Go.Proofs.YtopkdenefoifjaaDoor
