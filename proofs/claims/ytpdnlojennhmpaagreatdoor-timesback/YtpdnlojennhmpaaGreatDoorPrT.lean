/- What times.Print and the document's answer of every value; no statement of the seat is proved here. -/
import Derived.Test.YtpdnlojennhmpaaGreatDoorClV
import Derived.Test.YtpdnlojennhmpaaGreatDoorDtV
import Derived.Test.YtpdnlojennhmpaaGreatDoorSpR
import Derived.Test.YtpdnlojennhmpaaGreatDoorMayV
import Derived.Test.YtpdnlojennhmpaaGreatDoorSubG
namespace Go.Proofs.YtpdnlojennhmpaaGreatDoor
set_option linter.unusedVariables false
open Go.RowKit
/-- A span's text, of a number of nanoseconds. -/
def tmS (n : Int) : ByteArray := if n < 0 then ⟨#[45]⟩ ++ spT n.natAbs 7 else spS n.natAbs
/-- A value's text. -/
noncomputable def tpS (k b : Int) (s : ByteArray) : ByteArray :=
  if may3 k b s = false then ⟨#[]⟩
  else if k = 14 then ⟨#[84, 35]⟩ ++ tmS (wrap64 b)
  else if k = 15 then ⟨#[68, 35]⟩ ++ dateS (b / 86400000000000)
  else if k = 16 then ⟨#[84, 79, 68, 35]⟩ ++ clS b.toNat
  else if k = 17 then ⟨#[68, 84, 35]⟩ ++ dateS (b / 86400000000000) ++ ⟨#[45]⟩ ++ clS (b % 86400000000000).toNat
  else ⟨#[]⟩
theorem tmS_of (n : Int) (h0 : -9223372036854775808 ≤ n) (h1 : n < 9223372036854775808) (w : World) (hP : Pow w) (hU : PU w) :
    Calls Tryz.prog 10 #[.int .i64 n] w fun e w' => e = .returned (.string (tmS n)) ∧ Below w.heap.size w w' := by
  by_cases z : n = 0
  · subst z; exact printSpan_0 w
  · have := printSpan_of n h0 h1 z w hP hU
    have e : (if n < 0 then (⟨#[45]⟩ : ByteArray) else ⟨#[]⟩) ++ spT n.natAbs 7 = tmS n := by
      unfold tmS spS
      by_cases c : n < 0
      · rw [if_pos c, if_pos c]
      · rw [if_neg c, if_neg c, if_neg (by omega)]
        apply ByteArray.ext; rw [ByteArray.data_append]; simp
    rwa [e] at this
theorem dateS_size (n : Int) (h : n < 84006) : (dateS n).size ≤ 70 := by
  unfold dateS
  split
  · next e =>
    obtain ⟨k, m, d, hA, he⟩ := e.choose_spec
    rw [he]
    have y := hA.year
    have yb := Cal.ycum_bd k
    have m12 := hA.hm
    have db : 0 ≤ d ∧ d ≤ 30 := ⟨hA.lo, by have := hA.hi; have := Cal.dim_bd (1970 + (k : Int)) ((m : Int) + 1); omega⟩
    have a := dcS_20 (1970 + k) 4 (by omega) (by omega)
    have b := dcS_20 (1 + m) 2 (by omega) (by omega)
    have c := dcS_20 (d + 1).toNat 2 (by omega) (by omega)
    unfold dyS
    simp only [ByteArray.size_append]
    have o : (⟨#[45]⟩ : ByteArray).size = 1 := rfl
    omega
  · show 0 ≤ 70; omega
theorem clS_size (N : Nat) (h : N < 86400000000000) : (clS N).size ≤ 80 := by
  have s1 := dcS_20 (N / 3600000000000) 2 (by omega) (by omega)
  have s2 := dcS_20 (N % 3600000000000 / 60000000000) 2 (by omega) (by omega)
  have s3 := dcS_20 (N % 60000000000 / 1000000000) 2 (by omega) (by omega)
  have s4 := clF_size N
  have o : (⟨#[58]⟩ : ByteArray).size = 1 := rfl
  have o2 : (⟨#[46]⟩ : ByteArray).size = 1 := rfl
  have hh : (clH N).size ≤ 62 := by unfold clH; simp only [ByteArray.size_append]; omega
  unfold clS
  split
  · omega
  · simp only [ByteArray.size_append]; omega
theorem tmS_size (n : Int) (h0 : -9223372036854775808 ≤ n) (h1 : n < 9223372036854775808) : (tmS n).size ≤ 155 := by
  have := spT_size n.natAbs (by omega) 7
  have o : (⟨#[45]⟩ : ByteArray).size = 1 := rfl
  unfold tmS spS
  split
  · rw [ByteArray.size_append]; omega
  · split
    · show 2 ≤ 155; omega
    · omega
theorem tabB {w w1 : World} (h : Tab w) (hb : Below w.heap.size w w1) : Tab w1 := fun m hm => (hb.cell (p := ⟨1, m, none⟩) (World.block_lt_of_cell? w ⟨1, m, none⟩ (h m hm))).trans (h m hm)
section
variable (k b : Int) (s : ByteArray) (w : World)
abbrev MayT (p : Bool) : Prop := ∀ w, Calls Tryz.prog 9 #[V k b s] w fun e w' => e = .returned (.bool p) ∧ Below w.heap.size w w'
abbrev MayD (p : Bool) : Prop := ∀ w, Calls Tryz.prog 5 #[V k b s] w fun e w' => e = .returned (.bool p) ∧ Below w.heap.size w w'
set_option maxRecDepth 100000 in
set_option maxHeartbeats 2000000 in
theorem tp_no (M : Hid (MayT k b s false)) : Calls Tryz.prog 4 #[V k b s] w fun e w' => e = .returned (.string ⟨#[]⟩) ∧ Below w.heap.size w w' := by
  go_enter Tryz.func4, Tryz.ntmps4
  go_wp2_with fail
  refine (M.out _).mono ?_
  rintro e w1 ⟨rfl, hb⟩
  have B : Hid (Below w.heap.size w w1) := ((Below.refl _ _).alloc (Nat.le_refl _) _).trans (hb.mono (by simp))
  clear hb
  go_wp2
  go_ret
  exact ⟨rfl, B.out⟩
set_option maxRecDepth 100000 in
set_option maxHeartbeats 2000000 in
theorem tp_oth (hk : ¬ k = 14 ∧ ¬ k = 15 ∧ ¬ k = 16 ∧ ¬ k = 17) (M : Hid (MayT k b s true)) : Calls Tryz.prog 4 #[V k b s] w fun e w' => e = .returned (.string ⟨#[]⟩) ∧ Below w.heap.size w w' := by
  have f14 : (k == 14) = false := by simp; omega
  have f15 : (k == 15) = false := by simp; omega
  have f16 : (k == 16) = false := by simp; omega
  have f17 : (k == 17) = false := by simp; omega
  go_enter Tryz.func4, Tryz.ntmps4
  go_wp2_with fail
  refine (M.out _).mono ?_
  rintro e w1 ⟨rfl, hb⟩
  have B : Hid (Below w.heap.size w w1) := ((Below.refl _ _).alloc (Nat.le_refl _) _).trans (hb.mono (by simp))
  obtain ⟨l0, c00, c01, c02⟩ := (Lies.new w k b s _).next hb
  clear hb
  go_wp2
  go_ret
  exact ⟨rfl, B.out⟩
set_option maxRecDepth 100000 in
set_option maxHeartbeats 2000000 in
theorem tp_14 (x : ByteArray) (hx : x.size ≤ 200) (n : Int) (hn : IntKind.i64.wrap b = n) (C : Hid (∀ w1, Below w.heap.size w w1 → Calls Tryz.prog 10 #[.int .i64 n] w1 fun e w' => e = .returned (.string x) ∧ Below w1.heap.size w1 w')) (M : Hid (MayT 14 b s true)) : Calls Tryz.prog 4 #[V 14 b s] w fun e w' => e = .returned (.string (⟨#[84, 35]⟩ ++ x)) ∧ Below w.heap.size w w' := by
  go_enter Tryz.func4, Tryz.ntmps4
  go_wp2_with fail
  refine (M.out _).mono ?_
  rintro e w1 ⟨rfl, hb⟩
  have B : Hid (Below w.heap.size w w1) := ((Below.refl _ _).alloc (Nat.le_refl _) _).trans (hb.mono (by simp))
  obtain ⟨l0, c00, c01, c02⟩ := (Lies.new w 14 b s _).next hb
  clear hb
  go_wp2_with fail
  refine (C.out _ B.out).mono ?_
  rintro e w2 ⟨rfl, hb⟩
  have B2 : Hid (Below w.heap.size w w2) := B.out.trans (hb.mono B.out.size)
  clear hb
  go_wp2
  go_ret
  exact ⟨rfl, B2.out⟩
set_option maxRecDepth 100000 in
set_option maxHeartbeats 2000000 in
theorem tp_15 (x : ByteArray) (hx : x.size ≤ 200) (C : Hid (∀ w1, Below w.heap.size w w1 → Calls Tryz.prog 11 #[.int .u64 b] w1 fun e w' => e = .returned (.string x) ∧ Below w1.heap.size w1 w')) (M : Hid (MayT 15 b s true)) : Calls Tryz.prog 4 #[V 15 b s] w fun e w' => e = .returned (.string (⟨#[68, 35]⟩ ++ x)) ∧ Below w.heap.size w w' := by
  go_enter Tryz.func4, Tryz.ntmps4
  go_wp2_with fail
  refine (M.out _).mono ?_
  rintro e w1 ⟨rfl, hb⟩
  have B : Hid (Below w.heap.size w w1) := ((Below.refl _ _).alloc (Nat.le_refl _) _).trans (hb.mono (by simp))
  obtain ⟨l0, c00, c01, c02⟩ := (Lies.new w 15 b s _).next hb
  clear hb
  go_wp2_with fail
  refine (C.out _ B.out).mono ?_
  rintro e w2 ⟨rfl, hb⟩
  have B2 : Hid (Below w.heap.size w w2) := B.out.trans (hb.mono B.out.size)
  clear hb
  go_wp2
  go_ret
  exact ⟨rfl, B2.out⟩
set_option maxRecDepth 100000 in
set_option maxHeartbeats 2000000 in
theorem tp_16 (x : ByteArray) (hx : x.size ≤ 200) (C : Hid (∀ w1, Below w.heap.size w w1 → Calls Tryz.prog 12 #[.int .u64 b] w1 fun e w' => e = .returned (.string x) ∧ Below w1.heap.size w1 w')) (M : Hid (MayT 16 b s true)) : Calls Tryz.prog 4 #[V 16 b s] w fun e w' => e = .returned (.string (⟨#[84, 79, 68, 35]⟩ ++ x)) ∧ Below w.heap.size w w' := by
  go_enter Tryz.func4, Tryz.ntmps4
  go_wp2_with fail
  refine (M.out _).mono ?_
  rintro e w1 ⟨rfl, hb⟩
  have B : Hid (Below w.heap.size w w1) := ((Below.refl _ _).alloc (Nat.le_refl _) _).trans (hb.mono (by simp))
  obtain ⟨l0, c00, c01, c02⟩ := (Lies.new w 16 b s _).next hb
  clear hb
  go_wp2_with fail
  refine (C.out _ B.out).mono ?_
  rintro e w2 ⟨rfl, hb⟩
  have B2 : Hid (Below w.heap.size w w2) := B.out.trans (hb.mono B.out.size)
  clear hb
  go_wp2
  go_ret
  exact ⟨rfl, B2.out⟩
end
end Go.Proofs.YtpdnlojennhmpaaGreatDoor
