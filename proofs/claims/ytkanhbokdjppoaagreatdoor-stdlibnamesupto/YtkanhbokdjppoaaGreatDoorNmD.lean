/- Both sides' numbers of names that are none of the table's are the same: pure facts; no statement of the seat is proved here. -/
import Derived.Test.YtkanhbokdjppoaaGreatDoorNmB
import Derived.Test.YtkanhbokdjppoaaGreatDoorNmC
namespace Go.Proofs.YtkanhbokdjppoaaGreatDoor
set_option linter.unusedVariables false
open Go.RowKit
/-- TO_ stands at a place. -/
def o3 (l : List UInt8) (j : Nat) : Prop := l[j]? = some 84 ∧ l[j + 1]? = some 79 ∧ l[j + 2]? = some 95
theorem take3 (m : List UInt8) (a b c : UInt8) : m.take 3 = [a, b, c] ↔ m[0]? = some a ∧ m[1]? = some b ∧ m[2]? = some c := by
  match m with
  | [] => simp
  | [x] => simp
  | [x, y] => simp
  | x :: y :: z :: r => simp
theorem take4 (m : List UInt8) (a b c d : UInt8) : m.take 4 = [a, b, c, d] ↔ m[0]? = some a ∧ m[1]? = some b ∧ m[2]? = some c ∧ m[3]? = some d := by
  match m with
  | [] => simp
  | [x] => simp
  | [x, y] => simp
  | [x, y, z] => simp
  | x :: y :: z :: u :: r => simp
theorem occ_o3 (l : List UInt8) (j : Nat) : Lib.occAt l [84, 79, 95] j = true ↔ o3 l j := by
  unfold Lib.occAt o3
  rw [List.isPrefixOf_iff_prefix, List.prefix_iff_eq_take]
  show [84, 79, 95] = (l.drop j).take 3 ↔ _
  rw [eq_comm, take3]
  simp [List.getElem?_drop]
theorem tl_ext (s : ByteArray) (a b : Nat) : (s.extract a b).toList = (s.data.toList.take b).drop a := by rw [ByteArray.toList_eq, ByteArray.data_extract]; simp [List.drop_take]
theorem u4_iff (nm : ByteArray) (i : Nat) : ((nm.extract i (i + 4)).toList == [95, 84, 79, 95]) = true ↔ nm.data.toList[i]? = some 95 ∧ o3 nm.data.toList (i + 1) := by
  rw [tl_ext, beq_iff_eq, List.drop_take, show i + 4 - i = 4 by omega, take4]
  simp only [List.getElem?_drop, o3]
  constructor
  · rintro ⟨a, b, c, d⟩; exact ⟨a, b, c, d⟩
  · rintro ⟨a, b, c, d⟩; exact ⟨a, b, c, d⟩
theorem p3_iff (nm : ByteArray) : ((nm.extract 0 3).toList == [84, 79, 95]) = true ↔ o3 nm.data.toList 0 := by
  rw [tl_ext, beq_iff_eq, List.drop_zero, take3]; rfl
/-- What is a kind's word. -/
theorem kf_word {s : ByteArray} {i : Nat} : ∀ (f a : Nat), kfind s a f = some i → s.data.toList = (kw i).data.toList
  | 0, a, h => by simp [kfind] at h
  | f + 1, a, h => by
    unfold kfind at h
    split at h
    · rename_i e
      cases h
      rw [ByteArray.toList_eq, ByteArray.toList_eq, beq_iff_eq] at e
      exact e.symm
    · exact kf_word f (a + 1) h
/-- No kind's word has TO_ in it, ends with TO, or is empty. -/
def okW (x : List UInt8) : Bool := !x.isEmpty && (List.range 20).all (fun j => !(x[j]? == some 84 && x[j + 1]? == some 79 && (x[j + 2]? == some 95 || j + 2 == x.length))) && decide (x.length ≤ 20)
theorem kw_ok (i : Nat) (h : 1 ≤ i ∧ i ≤ 19) : okW (kw i).data.toList = true := by
  obtain ⟨h1, h2⟩ := h
  match i, h1, h2 with
  | 1, _, _ => decide
  | 2, _, _ => decide
  | 3, _, _ => decide
  | 4, _, _ => decide
  | 5, _, _ => decide
  | 6, _, _ => decide
  | 7, _, _ => decide
  | 8, _, _ => decide
  | 9, _, _ => decide
  | 10, _, _ => decide
  | 11, _, _ => decide
  | 12, _, _ => decide
  | 13, _, _ => decide
  | 14, _, _ => decide
  | 15, _, _ => decide
  | 16, _, _ => decide
  | 17, _, _ => decide
  | 18, _, _ => decide
  | 19, _, _ => decide
  | n + 20, _, h => omega
theorem kf_ok {s : ByteArray} {i : Nat} (h : kfind s 1 19 = some i) : okW s.data.toList = true := by
  rw [kf_word _ _ h]
  have := kfind_le _ _ _ _ h
  exact kw_ok i (by omega)
theorem ok_no {x : List UInt8} (h : okW x = true) (j : Nat) (a : x[j]? = some 84) (b : x[j + 1]? = some 79) (c : x[j + 2]? = some 95 ∨ j + 2 = x.length) : False := by
  unfold okW at h
  simp only [Bool.and_eq_true, List.all_eq_true, List.mem_range, decide_eq_true_eq] at h
  obtain ⟨⟨_, h2⟩, h3⟩ := h
  have hj : j < x.length := by
    rcases Nat.lt_or_ge j x.length with g | g
    · exact g
    · rw [List.getElem?_eq_none g] at a; cases a
  have := h2 j (by omega)
  rcases c with c | c
  · simp [a, b, c] at this
  · simp [a, b, c] at this
theorem ok_ne {x : List UInt8} (h : okW x = true) : x ≠ [] := by
  rintro rfl; simp [okW] at h
theorem cvF_none {nm : ByteArray} : ∀ (f i : Nat), (∀ j, i ≤ j → j < i + f → cvS nm j = none) → cvF nm i f = none
  | 0, i, _ => cvF_zero nm i
  | f + 1, i, h => by
    rw [cvF_succ, h i (Nat.le_refl _) (by omega)]
    exact cvF_none f (i + 1) (fun j h1 h2 => h j (by omega) (by omega))
theorem cvF_some {nm : ByteArray} {r : Int × Int} (k : Nat) (hk : cvS nm k = some r) : ∀ (f i : Nat), i ≤ k → k < i + f → (∀ j, i ≤ j → j < k → cvS nm j = none) → cvF nm i f = some r
  | 0, i, _, _, _ => by omega
  | f + 1, i, h1, h2, h => by
    rw [cvF_succ]
    by_cases e : i = k
    · subst e; rw [hk]
    · rw [h i (Nat.le_refl _) (by omega)]
      exact cvF_some k hk f (i + 1) (by omega) (by omega) (fun j g1 g2 => h j (by omega) g2)
theorem ba_of (s : ByteArray) (l : List UInt8) (h : s.data.toList = l) : s = ⟨l.toArray⟩ := by
  apply ByteArray.ext; rw [← h]
theorem dl_ext (s : ByteArray) (a b : Nat) : (s.extract a b).data.toList = (s.data.toList.take b).drop a := by rw [ByteArray.data_extract]; simp [List.drop_take]
theorem len_sz (s : ByteArray) : s.data.toList.length = s.size := by rw [Array.length_toList]; rfl
theorem kf_nil : kfind ⟨#[]⟩ 1 19 = none := by
  cases h : kfind ⟨#[]⟩ 1 19 with
  | none => rfl
  | some i => exact absurd rfl (ok_ne (kf_ok h))
/-- Where a look finds something, TO_ stands there first. -/
theorem cvS_first {nm : ByteArray} {i j : Nat} {r : Int × Int} (h : cvS nm i = some r) (hj : o3 nm.data.toList j) (hf : ∀ k, k < j → ¬ o3 nm.data.toList k) : j = i + 1 := by
  unfold cvS at h
  split at h
  · rename_i u
    rw [u4_iff] at u
    obtain ⟨u0, u1⟩ := u
    have l1 : j ≤ i + 1 := by
      rcases Nat.lt_or_ge (i + 1) j with g | g
      · exact absurd u1 (hf _ g)
      · exact g
    cases ka : kfind (nm.extract 0 i) 1 19 with
    | none => rw [ka] at h; simp at h
    | some fr =>
      have ok := kf_ok ka
      rw [dl_ext, List.drop_zero] at ok
      have tk : ∀ k, k < i → (nm.data.toList.take i)[k]? = nm.data.toList[k]? := fun k hk => List.getElem?_take_of_lt hk
      have li : i < nm.data.toList.length := by
        rcases Nat.lt_or_ge i nm.data.toList.length with g | g
        · exact g
        · rw [List.getElem?_eq_none g] at u0; cases u0
      have ln : (nm.data.toList.take i).length = i := by rw [List.length_take]; omega
      obtain ⟨a, b, c⟩ := hj
      rcases (by omega : j = i + 1 ∨ j = i ∨ j + 1 = i ∨ j + 2 ≤ i) with e | e | e | e
      · exact e
      · subst e; rw [u0] at a; simp at a
      · rw [e, u0] at b; simp at b
      · exfalso
        rcases (by omega : j + 2 = i ∨ j + 2 < i) with e | e
        · exact ok_no ok j (by rw [tk j (by omega)]; exact a) (by rw [tk (j + 1) (by omega)]; exact b) (.inr (by rw [ln]; exact e))
        · exact ok_no ok j (by rw [tk j (by omega)]; exact a) (by rw [tk (j + 1) (by omega)]; exact b) (.inl (by rw [tk (j + 2) (by omega)]; exact c))
  · simp at h
theorem cut_none {nm : ByteArray} (h : Lib.index nm.data.toList [84, 79, 95] = -1) : cutA nm = nm ∧ cutB nm = ⟨#[]⟩ := by
  unfold cutA cutB Lib.cut
  rw [h, if_neg (by decide)]
  exact ⟨(ba_of nm _ rfl).symm, rfl⟩
theorem cut_some {nm : ByteArray} {j : Nat} (h : Lib.index nm.data.toList [84, 79, 95] = j) : cutA nm = nm.extract 0 j ∧ cutB nm = nm.extract (j + 3) nm.size := by
  unfold cutA cutB Lib.cut
  rw [h, if_pos (by omega)]
  refine ⟨(ba_of _ _ ?_).symm, (ba_of _ _ ?_).symm⟩
  · rw [dl_ext, List.drop_zero]; simp
  · rw [dl_ext, ← len_sz nm, List.take_length]; simp
theorem lastU_iff (a : ByteArray) : lastU a = true ↔ ∃ n, a.size = n + 1 ∧ a.data.toList[n]? = some 95 := by
  unfold lastU
  rw [Bool.and_eq_true, decide_eq_true_eq, beq_iff_eq, tl_ext, ← len_sz a, List.take_length]
  constructor
  · rintro ⟨h1, h2⟩
    obtain ⟨n, e⟩ : ∃ n, a.data.toList.length = n + 1 := ⟨a.data.toList.length - 1, by omega⟩
    refine ⟨n, e, ?_⟩
    rw [e, Nat.add_sub_cancel] at h2
    have := congrArg (fun l => l[0]?) h2
    simpa [List.getElem?_drop] using this
  · rintro ⟨n, e, h⟩
    refine ⟨by omega, ?_⟩
    rw [e, Nat.add_sub_cancel]
    have hn : n < a.data.toList.length := by omega
    rw [List.drop_eq_getElem_cons hn, List.drop_of_length_le (by omega)]
    rw [List.getElem?_eq_getElem hn] at h
    rw [Option.some.inj h]
theorem cvT_no {nm : ByteArray} (h : ¬ o3 nm.data.toList 0) : cvT nm = (0, 0) := by
  unfold cvT
  cases q : ((nm.extract 0 3).toList == [84, 79, 95])
  · simp
  · exact absurd ((p3_iff nm).1 q) h
/-- Both sides agree. -/
theorem cv_same (nm : ByteArray) : cvR nm = cvP nm := by
  rcases Lib.index_spec nm.data.toList [84, 79, 95] with ⟨h, hno⟩ | ⟨j, h, hl, ho, hf⟩
  · have no : ∀ k, ¬ o3 nm.data.toList k := by
      intro k hk
      have hk' := (occ_o3 _ _).2 hk
      rcases Nat.lt_or_ge nm.data.toList.length k with g | g
      · have := hk.1; rw [List.getElem?_eq_none (by omega)] at this; cases this
      · rw [hno k g] at hk'; cases hk'
    obtain ⟨ea, eb⟩ := cut_none h
    have p : cvP nm = (0, 0) := by unfold cvP; rw [eb, kf_nil]
    have f : cvF nm 0 (nm.size - 3) = none := cvF_none _ _ (fun i _ _ => by
      unfold cvS
      cases u : ((nm.extract i (i + 4)).toList == [95, 84, 79, 95])
      · rfl
      · exact absurd ((u4_iff nm i).1 u).2 (no _))
    rw [p]; unfold cvR; rw [f]; exact cvT_no (no 0)
  · have hj : o3 nm.data.toList j := (occ_o3 _ _).1 ho
    have first : ∀ k, k < j → ¬ o3 nm.data.toList k := by
      intro k hk hk'
      have := (occ_o3 _ _).2 hk'
      have g := hf k hk
      rw [this] at g; cases g
    have only : ∀ i, i + 1 ≠ j → cvS nm i = none := by
      intro i hi
      cases e : cvS nm i with
      | none => rfl
      | some r => exact absurd (cvS_first e hj first).symm hi
    have room : j + 3 ≤ nm.size := by
      have := hj.2.2
      rcases Nat.lt_or_ge (j + 2) nm.data.toList.length with g | g
      · rw [len_sz] at g; omega
      · rw [List.getElem?_eq_none g] at this; cases this
    obtain ⟨ea, eb⟩ := cut_some h
    cases j with
    | zero =>
      have f : cvF nm 0 (nm.size - 3) = none := cvF_none _ _ (fun i _ _ => only i (by omega))
      have q := (p3_iff nm).2 hj
      have ez : (cutA nm).toList.isEmpty = true := by rw [ea, tl_ext]; simp
      unfold cvR cvP
      rw [f, ez, eb]
      simp only [if_true, Nat.zero_add]
      unfold cvT
      rw [q]
      by_cases l3 : 3 < nm.size
      · simp [l3]
        cases kfind (nm.extract 3 nm.size) 1 19 <;> rfl
      · have e0 : nm.extract 3 nm.size = ⟨#[]⟩ := ba_of _ _ (by rw [dl_ext, ← len_sz nm, List.take_length]; exact List.drop_of_length_le (by rw [len_sz]; omega))
        simp [l3, e0, kf_nil]
    | succ i0 =>
      have nt := cvT_no (first 0 (by omega))
      have sz : (cutA nm).size = i0 + 1 := by rw [ea]; simp; omega
      have ez : (cutA nm).toList.isEmpty = false := by
        rw [ea, tl_ext, List.drop_zero]
        have : (nm.data.toList.take (i0 + 1)).length = i0 + 1 := by rw [List.length_take, len_sz]; omega
        cases e : nm.data.toList.take (i0 + 1) with
        | nil => rw [e] at this; simp at this
        | cons x r => rfl
      have e1 : (cutA nm).extract 0 ((cutA nm).size - 1) = nm.extract 0 i0 := by
        have : ((cutA nm).extract 0 ((cutA nm).size - 1)).data.toList = (nm.extract 0 i0).data.toList := by
          rw [dl_ext, sz, ea, dl_ext, dl_ext, List.drop_zero, List.drop_zero, List.drop_zero, Nat.add_sub_cancel, List.take_take]
          congr 1; omega
        rw [ba_of _ _ this]
      have el : lastU (cutA nm) = true ↔ nm.data.toList[i0]? = some 95 := by
        rw [lastU_iff]
        constructor
        · rintro ⟨n, h1, h2⟩
          obtain rfl : n = i0 := by omega
          rw [ea, dl_ext, List.drop_zero, List.getElem?_take_of_lt (by omega)] at h2
          exact h2
        · intro g
          exact ⟨i0, sz, by rw [ea, dl_ext, List.drop_zero, List.getElem?_take_of_lt (by omega)]; exact g⟩
      have rest : cvS nm i0 = none → cvR nm = (0, 0) := by
        intro g
        unfold cvR
        rw [cvF_none _ _ (fun i _ _ => by by_cases e : i = i0; subst e; exact g; exact only i (by omega))]
        exact nt
      unfold cvP
      rw [ez, eb, e1]
      cases kt : kfind (nm.extract (i0 + 1 + 3) nm.size) 1 19 with
      | none =>
        refine rest ?_
        unfold cvS
        split
        · rw [show i0 + 4 = i0 + 1 + 3 by omega, kt]
          cases kfind (nm.extract 0 i0) 1 19 <;> rfl
        · rfl
      | some k =>
        cases u : lastU (cutA nm)
        · have nu : ¬ nm.data.toList[i0]? = some 95 := fun g => by rw [el.2 g] at u; cases u
          simp only [Bool.false_eq_true, if_false]
          refine rest ?_
          unfold cvS
          split
          · rename_i g; exact absurd ((u4_iff nm i0).1 g).1 nu
          · rfl
        · have g4 := (u4_iff nm i0).2 ⟨el.1 u, hj⟩
          simp only [Bool.false_eq_true, if_false, if_true]
          have sv : cvS nm i0 = (match kfind (nm.extract 0 i0) 1 19 with
            | none => none
            | some fr => some (64 + (k : Int), (fr : Int))) := by
            unfold cvS; rw [g4, show i0 + 4 = i0 + 1 + 3 by omega, kt]; rfl
          cases ka : kfind (nm.extract 0 i0) 1 19 with
          | none => exact rest (by rw [sv, ka])
          | some fr =>
            rw [ka] at sv
            unfold cvR
            rw [cvF_some i0 sv _ _ (Nat.zero_le _) (by omega) (fun i _ g => only i (by omega))]
end Go.Proofs.YtkanhbokdjppoaaGreatDoor
