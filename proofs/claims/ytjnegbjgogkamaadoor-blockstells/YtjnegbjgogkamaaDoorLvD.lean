/- How each block begins, of the program and of the document, and how many inputs it has; no statement of the seat is proved here. -/
import Derived.Test.YtjnegbjgogkamaaDoorLvA
import Derived.Test.YtjnegbjgogkamaaDoorBlkKF
import Derived.Test.YtjnegbjgogkamaaDoorBlkL
namespace Go.Proofs.YtjnegbjgogkamaaDoor
set_option linter.unusedVariables false
open Go.RowKit
theorem fldF' : FldOk ⟨#[67, 76, 75, 32, 81, 32, 77]⟩ 3 nmF where
  small := by decide
  ascii := fun j b h => (show ∀ b ∈ (⟨#[67, 76, 75, 32, 81, 32, 77]⟩ : ByteArray).data.toList, b.toNat < 128 by decide) b (List.mem_of_getElem? h)
  len := by decide
  at_ := fun i hi => by
    match i, hi with
    | 0, _ => rfl
    | 1, _ => rfl
    | 2, _ => rfl
theorem Start_4' (w : World) (ht : Asc w) : Calls Tryd.prog 16 #[.int .i64 4] w fun e w' => ∃ g c, e = .returned (.slice (some ⟨g, 0, none⟩) 3 c) ∧ w.heap.size ≤ g ∧ Row3 w' g 3 (stF ks3) ∧ Below w.heap.size w w' :=
  Start_fall ks3 1 1 w (Vars_fall ⟨#[70, 95, 84, 82, 73, 71]⟩ ⟨#[67, 76, 75, 32, 81, 32, 77]⟩ ks3 1 1 43 w numbered_4 rfl fldF' ht (by decide) (by decide)) rfl
/-- A block's beginning, and its inputs. -/
structure Bgn (K : Int) (n : Nat) (u : Nat → Vl) (m : Nat) : Prop where
  hn : 0 < n
  hn2 : n ≤ 100
  hm : m ≤ 100
  ok : ∀ i, i < n → VlOk (u i)
  sp : ∀ w, Asc w → Calls Tryd.prog 16 #[.int .i64 K] w fun e w' => ∃ g c, e = .returned (.slice (some ⟨g, 0, none⟩) n c) ∧ w.heap.size ≤ g ∧ Row3 w' g n u ∧ Below w.heap.size w w'
  sr : ∀ w, Calls Tryd.prog 17 #[.int .i64 K] w fun e w' => ∃ g c, e = .returned (.slice (some ⟨g, 0, none⟩) n c) ∧ w.heap.size ≤ g ∧ Row3 w' g n u ∧ Below w.heap.size w w'
  ir : ∀ w, Calls Tryd.prog 20 #[.int .i64 K] w fun e w' => e = .returned (.int .i64 m) ∧ Below w.heap.size w w'
theorem st_ok (ks : ByteArray) (i : Nat) : VlOk (strV ks i) := by
  have := K3_r (kAt_cases ks i)
  exact ⟨this.1, this.2, by show (0 : Int) ≤ 0; omega, by show (0 : Int) < 18446744073709551616; omega, by show (⟨#[]⟩ : ByteArray).size ≤ maxLen; decide⟩
theorem stF_ok (i : Nat) : VlOk (stF ks3 i) := by
  unfold stF
  split
  · exact ⟨by decide, by decide, by decide, by decide, by decide⟩
  · exact st_ok ks3 i
theorem bgn_1 : Bgn 1 3 (strV ks3) (insN (clsN 2 1) 3) where
  hn := by decide
  hn2 := by decide
  hm := Nat.le_trans (insN_le _ _) (by decide)
  ok := fun i _ => st_ok ks3 i
  sp := fun w ht => Start_1 w ht
  sr := fun w => StartR_gen 1 3 _ w (by decide) (by decide) ((VarsR_1 w).mono fun e w' ⟨g, c, h1, h2, h3, h4⟩ => ⟨g, c, h1, h2, ⟨_, h3, fun i hi => .inl ⟨rfl, rfl⟩⟩, h4⟩)
  ir := fun w => ins_of 1 3 _ w (by decide) ((VarsR_1 w).mono fun e w' ⟨g, c, h1, h2, h3, h4⟩ => ⟨g, c, h1, h2, ⟨_, h3, rfl, fun i hi => ⟨_, _, _, rfl⟩⟩, h4⟩)
theorem bgn_2 : Bgn 2 3 (strV ks3) (insN (clsN 2 1) 3) where
  hn := by decide
  hn2 := by decide
  hm := Nat.le_trans (insN_le _ _) (by decide)
  ok := fun i _ => st_ok ks3 i
  sp := fun w ht => Start_2 w ht
  sr := fun w => StartR_gen 2 3 _ w (by decide) (by decide) ((VarsR_2 w).mono fun e w' ⟨g, c, h1, h2, h3, h4⟩ => ⟨g, c, h1, h2, ⟨_, h3, fun i hi => .inl ⟨rfl, rfl⟩⟩, h4⟩)
  ir := fun w => ins_of 2 3 _ w (by decide) ((VarsR_2 w).mono fun e w' ⟨g, c, h1, h2, h3, h4⟩ => ⟨g, c, h1, h2, ⟨_, h3, rfl, fun i hi => ⟨_, _, _, rfl⟩⟩, h4⟩)
theorem bgn_3 : Bgn 3 3 (strV ks3) (insN (clsN 1 1) 3) where
  hn := by decide
  hn2 := by decide
  hm := Nat.le_trans (insN_le _ _) (by decide)
  ok := fun i _ => st_ok ks3 i
  sp := fun w ht => Start_3 w ht
  sr := fun w => StartR_gen 3 3 _ w (by decide) (by decide) ((VarsR_3 w).mono fun e w' ⟨g, c, h1, h2, h3, h4⟩ => ⟨g, c, h1, h2, ⟨_, h3, fun i hi => .inl ⟨rfl, rfl⟩⟩, h4⟩)
  ir := fun w => ins_of 3 3 _ w (by decide) ((VarsR_3 w).mono fun e w' ⟨g, c, h1, h2, h3, h4⟩ => ⟨g, c, h1, h2, ⟨_, h3, rfl, fun i hi => ⟨_, _, _, rfl⟩⟩, h4⟩)
theorem bgn_4 : Bgn 4 3 (stF ks3) (insN (clsN 1 1) 3) where
  hn := by decide
  hn2 := by decide
  hm := Nat.le_trans (insN_le _ _) (by decide)
  ok := fun i _ => stF_ok i
  sp := fun w ht => Start_4' w ht
  sr := fun w => StartR_gen 4 3 _ w (by decide) (by decide) ((VarsR_4 w).mono fun e w' ⟨g, c, h1, h2, ⟨b, h3, h5⟩, h4⟩ => ⟨g, c, h1, h2, ⟨_, h3, fun i hi => by
    by_cases e : i = 2
    · refine .inr ⟨b, ?_, h5, ?_⟩
      · show iniR b i = _; unfold iniR; rw [if_pos e]
      · unfold stF; rw [if_pos e]
    · refine .inl ⟨?_, ?_⟩
      · show iniR b i = _; unfold iniR; rw [if_neg e]
      · unfold stF; rw [if_neg e]⟩, h4⟩)
  ir := fun w => ins_of 4 3 _ w (by decide) ((VarsR_4 w).mono fun e w' ⟨g, c, h1, h2, ⟨b, h3, h5⟩, h4⟩ => ⟨g, c, h1, h2, ⟨_, h3, rfl, fun i hi => by
    by_cases e : i = 2
    · exact ⟨_, _, _, by show iniR b i = _; unfold iniR; rw [if_pos e]⟩
    · exact ⟨_, _, _, by show iniR b i = _; unfold iniR; rw [if_neg e]⟩⟩, h4⟩)
theorem bgn_5 : Bgn 5 6 (strV ksC) (insN (clsN 3 2) 6) where
  hn := by decide
  hn2 := by decide
  hm := Nat.le_trans (insN_le _ _) (by decide)
  ok := fun i _ => st_ok ksC i
  sp := fun w ht => Start_5 w ht
  sr := fun w => StartR_gen 5 6 _ w (by decide) (by decide) ((VarsR_5 w).mono fun e w' ⟨g, c, h1, h2, h3, h4⟩ => ⟨g, c, h1, h2, ⟨_, h3, fun i hi => .inl ⟨rfl, rfl⟩⟩, h4⟩)
  ir := fun w => ins_of 5 6 _ w (by decide) ((VarsR_5 w).mono fun e w' ⟨g, c, h1, h2, h3, h4⟩ => ⟨g, c, h1, h2, ⟨_, h3, rfl, fun i hi => ⟨_, _, _, rfl⟩⟩, h4⟩)
theorem bgn_6 : Bgn 6 6 (strV ksC) (insN (clsN 3 2) 6) where
  hn := by decide
  hn2 := by decide
  hm := Nat.le_trans (insN_le _ _) (by decide)
  ok := fun i _ => st_ok ksC i
  sp := fun w ht => Start_6 w ht
  sr := fun w => StartR_gen 6 6 _ w (by decide) (by decide) ((VarsR_6 w).mono fun e w' ⟨g, c, h1, h2, h3, h4⟩ => ⟨g, c, h1, h2, ⟨_, h3, fun i hi => .inl ⟨rfl, rfl⟩⟩, h4⟩)
  ir := fun w => ins_of 6 6 _ w (by decide) ((VarsR_6 w).mono fun e w' ⟨g, c, h1, h2, h3, h4⟩ => ⟨g, c, h1, h2, ⟨_, h3, rfl, fun i hi => ⟨_, _, _, rfl⟩⟩, h4⟩)
theorem bgn_7 : Bgn 7 10 (strV ksB) (insN (clsN 5 3) 10) where
  hn := by decide
  hn2 := by decide
  hm := Nat.le_trans (insN_le _ _) (by decide)
  ok := fun i _ => st_ok ksB i
  sp := fun w ht => Start_7 w ht
  sr := fun w => StartR_gen 7 10 _ w (by decide) (by decide) ((VarsR_7 w).mono fun e w' ⟨g, c, h1, h2, h3, h4⟩ => ⟨g, c, h1, h2, ⟨_, h3, fun i hi => .inl ⟨rfl, rfl⟩⟩, h4⟩)
  ir := fun w => ins_of 7 10 _ w (by decide) ((VarsR_7 w).mono fun e w' ⟨g, c, h1, h2, h3, h4⟩ => ⟨g, c, h1, h2, ⟨_, h3, rfl, fun i hi => ⟨_, _, _, rfl⟩⟩, h4⟩)
theorem bgn_8 : Bgn 8 6 (strV ksT) (insN (clsN 2 2) 6) where
  hn := by decide
  hn2 := by decide
  hm := Nat.le_trans (insN_le _ _) (by decide)
  ok := fun i _ => st_ok ksT i
  sp := fun w ht => Start_8 w ht
  sr := fun w => StartR_gen 8 6 _ w (by decide) (by decide) ((VarsR_8 w).mono fun e w' ⟨g, c, h1, h2, h3, h4⟩ => ⟨g, c, h1, h2, ⟨_, h3, fun i hi => .inl ⟨rfl, rfl⟩⟩, h4⟩)
  ir := fun w => ins_of 8 6 _ w (by decide) ((VarsR_8 w).mono fun e w' ⟨g, c, h1, h2, h3, h4⟩ => ⟨g, c, h1, h2, ⟨_, h3, rfl, fun i hi => ⟨_, _, _, rfl⟩⟩, h4⟩)
theorem bgn_9 : Bgn 9 6 (strV ksT) (insN (clsN 2 2) 6) where
  hn := by decide
  hn2 := by decide
  hm := Nat.le_trans (insN_le _ _) (by decide)
  ok := fun i _ => st_ok ksT i
  sp := fun w ht => Start_9 w ht
  sr := fun w => StartR_gen 9 6 _ w (by decide) (by decide) ((VarsR_9 w).mono fun e w' ⟨g, c, h1, h2, h3, h4⟩ => ⟨g, c, h1, h2, ⟨_, h3, fun i hi => .inl ⟨rfl, rfl⟩⟩, h4⟩)
  ir := fun w => ins_of 9 6 _ w (by decide) ((VarsR_9 w).mono fun e w' ⟨g, c, h1, h2, h3, h4⟩ => ⟨g, c, h1, h2, ⟨_, h3, rfl, fun i hi => ⟨_, _, _, rfl⟩⟩, h4⟩)
theorem bgn_10 : Bgn 10 6 (strV ksT) (insN (clsN 2 2) 6) where
  hn := by decide
  hn2 := by decide
  hm := Nat.le_trans (insN_le _ _) (by decide)
  ok := fun i _ => st_ok ksT i
  sp := fun w ht => Start_10 w ht
  sr := fun w => StartR_gen 10 6 _ w (by decide) (by decide) ((VarsR_10 w).mono fun e w' ⟨g, c, h1, h2, h3, h4⟩ => ⟨g, c, h1, h2, ⟨_, h3, fun i hi => .inl ⟨rfl, rfl⟩⟩, h4⟩)
  ir := fun w => ins_of 10 6 _ w (by decide) ((VarsR_10 w).mono fun e w' ⟨g, c, h1, h2, h3, h4⟩ => ⟨g, c, h1, h2, ⟨_, h3, rfl, fun i hi => ⟨_, _, _, rfl⟩⟩, h4⟩)
theorem bgn_any (K : Int) (h : 1 ≤ K ∧ K ≤ 10) : ∃ n u m, Bgn K n u m := by
  rcases (show K = 1 ∨ K = 2 ∨ K = 3 ∨ K = 4 ∨ K = 5 ∨ K = 6 ∨ K = 7 ∨ K = 8 ∨ K = 9 ∨ K = 10 by omega) with rfl | rfl | rfl | rfl | rfl | rfl | rfl | rfl | rfl | rfl
  · exact ⟨_, _, _, bgn_1⟩
  · exact ⟨_, _, _, bgn_2⟩
  · exact ⟨_, _, _, bgn_3⟩
  · exact ⟨_, _, _, bgn_4⟩
  · exact ⟨_, _, _, bgn_5⟩
  · exact ⟨_, _, _, bgn_6⟩
  · exact ⟨_, _, _, bgn_7⟩
  · exact ⟨_, _, _, bgn_8⟩
  · exact ⟨_, _, _, bgn_9⟩
  · exact ⟨_, _, _, bgn_10⟩
end Go.Proofs.YtjnegbjgogkamaaDoor
