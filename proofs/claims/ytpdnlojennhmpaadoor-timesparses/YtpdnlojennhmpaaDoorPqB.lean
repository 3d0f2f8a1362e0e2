/- What cutPart, findUnit and nanos of times answer of every text, exactly; no statement of the seat is proved here. -/
import Derived.Test.YtpdnlojennhmpaaDoorPqA
namespace Go.Proofs.YtpdnlojennhmpaaDoor
set_option linter.unusedVariables false
open Go.RowKit
abbrev bl (l : List UInt8) : ByteArray := ⟨l.toArray⟩
theorem q_ext (s : ByteArray) (a b : Nat) : (s.extract a b).data.toList = (s.data.toList.take b).drop a := by
  rw [ByteArray.data_extract]
  simp [List.drop_take]
theorem q_eq (s : ByteArray) (l : List UInt8) (h : s.data.toList = l) : s = bl l := by
  apply ByteArray.ext
  rw [← h]
theorem q_all (s : ByteArray) : s.data.toList.take s.size = s.data.toList := List.take_of_length_le (by simp)
theorem q_size (s : ByteArray) : s.size = s.data.toList.length := by simp
theorem preB_head (c : UInt8) (s : ByteArray) : preB c s = (s.data.toList.head? == some c) := by
  unfold preB
  rw [ByteArray.toList_eq, q_ext, q_size]
  cases s.data.toList with
  | nil => rfl
  | cons d l =>
    simp
theorem aftB_list (c : UInt8) (s : ByteArray) : (aftB c s).data.toList = if s.data.toList.head? == some c then s.data.toList.tail else s.data.toList := by
  unfold aftB
  rw [preB_head]
  split
  · rw [q_ext, q_all]
    simp
  · rfl
theorem q_empty (s : ByteArray) : s.toList.isEmpty = s.data.toList.isEmpty := by rw [ByteArray.toList_eq]
set_option maxHeartbeats 2000000 in
theorem cutPart_is (s : ByteArray) (w : World) (hs : s.size ≤ maxLen) : Calls Tryd.prog 15 #[.string s] w fun e w' => e = .returned (.tuple #[.agg #[.string (bl (cpW s.data.toList)), .string (bl (cpB s.data.toList)), .bool (cpD s.data.toList), .string (bl (cpU s.data.toList))], .string (bl (cpR s.data.toList))]) ∧ Below w.heap.size w w' := by
  have ea : s.extract 0 (cutN digT s) = bl (cpW s.data.toList) := q_eq _ _ (by rw [q_ext]; rfl)
  have ey : (s.extract (cutN digT s) s.size).data.toList = cp1 s.data.toList := by rw [q_ext, q_all]; rfl
  have eq : preB 46 (s.extract (cutN digT s) s.size) = cpD s.data.toList := by rw [preB_head, ey]; rfl
  have ez : (aftB 46 (s.extract (cutN digT s) s.size)).data.toList = cp2 s.data.toList := by rw [aftB_list, ey]; rfl
  have eB : cpB s.data.toList = if cpD s.data.toList then (cp2 s.data.toList).take (runT digT (cp2 s.data.toList)) else [] := rfl
  have e3 : cp3 s.data.toList = if cpD s.data.toList then (cp2 s.data.toList).drop (runT digT (cp2 s.data.toList)) else cp2 s.data.toList := rfl
  have eU : cpU s.data.toList = (cp3 s.data.toList).take (runT letT (cp3 s.data.toList)) := rfl
  have eR : cpR s.data.toList = (cp3 s.data.toList).drop (runT letT (cp3 s.data.toList)) := rfl
  rw [← ea, ← eq]
  rw [← eq] at eB e3
  generalize cpU s.data.toList = cU at *
  generalize cpR s.data.toList = cR at *
  generalize cpB s.data.toList = cB at *
  generalize cp3 s.data.toList = c3 at *
  generalize cp2 s.data.toList = c2 at *
  have C1 : Hid _ := fun w => cut_digit s w hs
  have k1 := ext_le s 0 (cutN digT s)
  have k2 := ext_le s (cutN digT s) s.size
  generalize s.extract 0 (cutN digT s) = a at *
  generalize s.extract (cutN digT s) s.size = y at *
  have hy : y.size ≤ maxLen := Nat.le_trans k2 hs
  have C2 : Hid _ := fun w => cutPre_of 46 y w hy
  have k3 := aftB_size 46 y
  generalize aftB 46 y = z at *
  have hz : z.size ≤ maxLen := Nat.le_trans k3 hy
  have C3 : Hid _ := fun w => cut_digit z w hz
  have k4 := ext_le z 0 (cutN digT z)
  have k5 := ext_le z (cutN digT z) z.size
  generalize eb0 : z.extract 0 (cutN digT z) = b at *
  generalize ey20 : z.extract (cutN digT z) z.size = y2 at *
  replace eb0 := eb0.symm
  replace ey20 := ey20.symm
  have hy2 : y2.size ≤ maxLen := Nat.le_trans k5 hz
  cases q : preB 46 y
  · rw [q] at C2 eB e3
    simp only [Bool.false_eq_true, if_false] at eB e3
    subst eB e3 ez
    have eu : z.extract 0 (cutN letT z) = bl cU := q_eq _ _ (by rw [q_ext, eU]; rfl)
    have er : z.extract (cutN letT z) z.size = bl cR := q_eq _ _ (by rw [q_ext, q_all, eR]; rfl)
    rw [← eu, ← er]
    have C4 : Hid _ := fun w => cut_letter z w hz
    have k6 := ext_le z 0 (cutN letT z)
    have k7 := ext_le z (cutN letT z) z.size
    generalize z.extract 0 (cutN letT z) = c at *
    generalize z.extract (cutN letT z) z.size = r at *
    clear q
    clear ea eu er ey eU eR eq
    go_enter Tryd.func15, Tryd.ntmps15
    go_wp2_with fail
    refine (C1.out _).mono ?_
    rintro e w1 ⟨rfl, hb⟩
    obtain ⟨c0, c1, f0, f1, B1, z1⟩ := bb2 hb
    clear hb
    go_wp2_with (go_at_call 14; refine (C2.out _).mono ?_; rintro e w2 ⟨rfl, rfl⟩)
    refine (C4.out _).mono ?_
    rintro e w3 ⟨rfl, hb3⟩
    obtain ⟨d0, d1, g0, g1, z3⟩ := bb3 (h := w.heap.size) hb3 (by simpa using z1)
    go_wp2
    have B3 : Below w.heap.size w w3 := ((B1.setCell (by simp) _).setCell (by simp) _).trans (hb3.mono (by simp; omega))
    refine bodyPost_ret (v := .tuple #[.agg #[.string a, .string s0, .bool false, .string c], .string r]) (by simp [results, Tryd.results15, go_sem, d0, c0]) rfl ⟨rfl, ?_⟩
    go_grown
  · rw [q] at C2 eB e3
    simp only [if_true] at eB e3
    subst ez
    have eb : b = bl cB := by rw [eb0]; exact q_eq _ _ (by rw [q_ext, eB]; rfl)
    have ey2 : y2.data.toList = c3 := by rw [ey20, q_ext, q_all, e3]; rfl
    subst ey2
    have eu : y2.extract 0 (cutN letT y2) = bl cU := q_eq _ _ (by rw [q_ext, eU]; rfl)
    have er : y2.extract (cutN letT y2) y2.size = bl cR := q_eq _ _ (by rw [q_ext, q_all, eR]; rfl)
    rw [← eu, ← er, ← eb]
    clear eb0 ey20
    have C4 : Hid _ := fun w => cut_letter y2 w hy2
    have k6 := ext_le y2 0 (cutN letT y2)
    have k7 := ext_le y2 (cutN letT y2) y2.size
    generalize y2.extract 0 (cutN letT y2) = c at *
    generalize y2.extract (cutN letT y2) y2.size = r at *
    clear q
    clear ea eu er eb ey eU eR eq
    go_enter Tryd.func15, Tryd.ntmps15
    go_wp2_with fail
    refine (C1.out _).mono ?_
    rintro e w1 ⟨rfl, hb⟩
    obtain ⟨c0, c1, f0, f1, B1, z1⟩ := bb2 hb
    clear hb
    go_wp2_with (go_at_call 14; refine (C2.out _).mono ?_; rintro e w2 ⟨rfl, rfl⟩)
    refine (C3.out _).mono ?_
    rintro e w3 ⟨rfl, hb3⟩
    obtain ⟨d0, d1, g0, g1, z3⟩ := bb3 (h := w.heap.size) hb3 (by simpa using z1)
    have B3 : Hid (Below w.heap.size w w3) := ((B1.setCell (by simp) _).setCell (by simp) _).trans (hb3.mono (by simp; omega))
    go_wp2_with fail
    refine (C4.out _).mono ?_
    rintro e w4 ⟨rfl, hb4⟩
    obtain ⟨e0, e1, j0, j1, z4⟩ := bb3 (h := w.heap.size) hb4 (by simpa using z3)
    have B4 : Below w.heap.size w w4 := (B3.out.setCell (by simp) _).trans (hb4.mono (by simp; omega))
    go_wp2
    refine bodyPost_ret (v := .tuple #[.agg #[.string a, .string b, .bool true, .string c], .string r]) (by simp [results, Tryd.results15, go_sem, e0, d0, c0]) rfl ⟨rfl, ?_⟩
    go_grown
theorem uN_q (j : Nat) : (uN j).data.toList = qN j := by
  unfold uN qN
  by_cases h : j < 7
  · rcases (by omega : j = 0 ∨ j = 1 ∨ j = 2 ∨ j = 3 ∨ j = 4 ∨ j = 5 ∨ j = 6) with rfl | rfl | rfl | rfl | rfl | rfl | rfl <;> rfl
  · rw [List.getD_eq_getElem?_getD, List.getElem?_eq_none (by show 7 ≤ j; omega), List.getD_eq_getElem?_getD, List.getElem?_eq_none (by show 7 ≤ j; omega)]; rfl
theorem uL_q (j : Nat) (h : j < 7) : uL j = (qL j : Int) := by
  rcases (by omega : j = 0 ∨ j = 1 ∨ j = 2 ∨ j = 3 ∨ j = 4 ∨ j = 5 ∨ j = 6) with rfl | rfl | rfl | rfl | rfl | rfl | rfl <;> decide
theorem uB_q (j : Nat) (h : j < 7) : uB j = (pM j : Int) := by
  rcases (by omega : j = 0 ∨ j = 1 ∨ j = 2 ∨ j = 3 ∨ j = 4 ∨ j = 5 ∨ j = 6) with rfl | rfl | rfl | rfl | rfl | rfl | rfl <;> decide
/-- What findUnit answers. -/
def fuV (o : Option Nat) : Value := match o with
  | none => .tuple #[.int .i64 0, .bool false]
  | some i => .tuple #[.int .i64 (i : Int), .bool true]
theorem q_same (a b : ByteArray) : (a.toList == b.toList) = decide (a.data.toList = b.data.toList) := by
  rw [ByteArray.toList_eq, ByteArray.toList_eq]
  by_cases h : a.data.toList = b.data.toList
  · rw [h]; simp
  · rw [decide_eq_false h]; exact beq_eq_false_iff_ne.mpr h
theorem fuO_at (w : List UInt8) (k : Nat) (h : k < 7) : fuO w k = if qN k = w then some k else fuO w (k + 1) := by
  unfold fuO
  obtain ⟨f, hf⟩ : ∃ f, 7 - k = f + 1 := ⟨6 - k, by omega⟩
  rw [hf, show 7 - (k + 1) = f by omega]
  rfl
set_option maxHeartbeats 1000000 in
theorem findUnit_exact (s : ByteArray) (a : Nat) (w : World) (u : UT7 w) (ha : a ≤ 7) : Calls Tryd.prog 16 #[.string s, .int .i64 a] w fun e w' => e = .returned (fuV (fuO s.data.toList a)) ∧ w' = w := by
  have U : Hid (UT7 w) := u
  clear u
  generalize hR : fuO s.data.toList a = R
  have HR : Hid (fuO s.data.toList a = R) := hR
  clear hR
  go_enter Tryd.func16, Tryd.ntmps16
  go_wp2_with fail
  go_loop [6] (fun v => ∃ k : Nat, a ≤ k ∧ k ≤ 7 ∧ v = .int .i64 k ∧ Hid (fuO s.data.toList k = R)) (fun v => 7 - (intOf v).toNat)
  case atStart => exact ⟨a, Nat.le_refl _, ha, rfl, HR⟩
  case round =>
    obtain ⟨k, h1, h2, rfl, HK⟩ := hrel
    by_cases hlt : k < 7
    · have i1 : (k : Int) < 7 := by omega
      obtain ⟨c0, c1, c2⟩ := U.out k hlt
      have ST : Hid _ := fuO_at s.data.toList k hlt
      have SM : Hid _ := q_same (uN k) s
      cases q : ((uN k).toList == s.toList)
      · have nx : Hid (fuO s.data.toList (k + 1) = R) := by
          show _ = _
          have e := SM.out
          rw [q, uN_q] at e
          rw [← HK.out, ST.out, if_neg (of_decide_eq_false e.symm)]
        clear ST SM HK
        go_wp2
        go_round
        case rel => exact ⟨k + 1, by omega, by omega, by go_num, nx⟩
        case measure => simp [intOf]; omega
      · have E : Hid (R = some k) := by
          show _ = _
          have e := SM.out
          rw [q, uN_q] at e
          rw [← HK.out, ST.out, if_pos (of_decide_eq_true e.symm)]
        clear ST SM HK
        go_wp2
        go_returns
        exact ⟨by rw [E.out]; rfl, rfl⟩
    · have E : Hid (R = none) := by
        show _ = _
        rw [← HK.out, fuO, show 7 - k = 0 by omega]
        rfl
      clear HK
      go_wp2
      go_returns
      exact ⟨by rw [E.out]; rfl, rfl⟩
/-- What nanos answers of a part's number, its fraction, and where it stands. -/
def naV (n : Int) (p : Bool) (r : Int) (q : Bool) (d be f : Bool) (l m : Int) : Value :=
  if p = true ∧ q = true ∧ ¬ (d = true ∧ be = true) ∧ (f = true ∨ n < m) ∧ n ≤ (9223372036854775807 - r) / l then .tuple #[.int .i64 (n * l + r), .bool true] else .tuple #[.int .i64 0, .bool false]
set_option maxHeartbeats 4000000 in
theorem nanos_exact (a b : ByteArray) (d : Bool) (c un : ByteArray) (n r l m : Int) (p q f : Bool) (ha : a.size ≤ maxLen) (hb : b.size ≤ maxLen) (l0 : 1 ≤ l) (l1 : l ≤ 86400000000000) (hn : rnV a = .tuple #[.int .i64 n, .bool p]) (hr : rfV l b = .tuple #[.int .i64 r, .bool q]) (n0 : 0 ≤ n ∧ n ≤ 9223372036854775807) (r0 : 0 ≤ r ∧ r ≤ 9223372036854775807) (w : World) :
    Calls Tryd.prog 18 #[.agg #[.string a, .string b, .bool d, .string c], .agg #[.string un, .int .i64 l, .int .i64 m], .bool f] w fun e w' => e = .returned (naV n p r q d b.toList.isEmpty f l m) ∧ Below w.heap.size w w' := by
  have R1 : Hid (∀ w, Calls Tryd.prog 47 #[.string a] w fun e w' => e = .returned (.tuple #[.int .i64 n, .bool p]) ∧ w' = w) := fun w => by
    have := readNum_is a w ha
    rwa [hn] at this
  have R2 : Hid (∀ w, Calls Tryd.prog 26 #[.string b, .int .i64 l] w fun e w' => e = .returned (.tuple #[.int .i64 r, .bool q]) ∧ w' = w) := fun w => by
    have := readFrac_is b l w hb (by omega) l1
    rwa [hr] at this
  clear hn hr
  have no : (¬ (p = true ∧ q = true ∧ ¬ (d = true ∧ b.toList.isEmpty = true) ∧ (f = true ∨ n < m) ∧ n ≤ (9223372036854775807 - r) / l)) → naV n p r q d b.toList.isEmpty f l m = .tuple #[.int .i64 0, .bool false] := fun h => by unfold naV; rw [if_neg h]
  have yes : (p = true ∧ q = true ∧ ¬ (d = true ∧ b.toList.isEmpty = true) ∧ (f = true ∨ n < m) ∧ n ≤ (9223372036854775807 - r) / l) → naV n p r q d b.toList.isEmpty f l m = .tuple #[.int .i64 (n * l + r), .bool true] := fun h => by unfold naV; rw [if_pos h]
  have dots : (d = true ∧ b.toList.isEmpty = true) ∨ d = false ∨ (d = true ∧ b.toList.isEmpty = false) := by
    cases d <;> cases b.toList.isEmpty <;> simp
  have firsts : f = true ∨ (f = false ∧ m ≤ n) ∨ (f = false ∧ n < m) := by
    rcases Int.lt_or_le n m with h | h <;> cases f <;> simp [h]
  have great : (9223372036854775807 - r) / l < n ∨ n ≤ (9223372036854775807 - r) / l := by omega
  have fine : n ≤ (9223372036854775807 - r) / l → wrap64 (n * l) = n * l ∧ wrap64 (n * l + r) = n * l + r := fun g => by
    have a1 : n * l ≤ 9223372036854775807 - r := (Int.le_ediv_iff_mul_le (by omega)).1 g
    have a2 : 0 ≤ n * l := Int.mul_nonneg n0.1 (by omega)
    unfold wrap64
    generalize n * l = x at *
    omega
  cases p
  · rw [no (by simp)]
    clear no yes fine
    go_enter Tryd.func18, Tryd.ntmps18
    go_wp2_with (first
      | (go_at_call 47; refine (R1.out _).mono ?_; rintro e w1 ⟨rfl, rfl⟩)
      | (go_at_call 26; refine (R2.out _).mono ?_; rintro e w2 ⟨rfl, rfl⟩))
    go_returns
    exact ⟨rfl, ((Below.refl _ _).alloc (Nat.le_refl _) _).alloc (by simp) _⟩
  cases q
  · rw [no (by simp)]
    clear no yes fine
    go_enter Tryd.func18, Tryd.ntmps18
    go_wp2_with (first
      | (go_at_call 47; refine (R1.out _).mono ?_; rintro e w1 ⟨rfl, rfl⟩)
      | (go_at_call 26; refine (R2.out _).mono ?_; rintro e w2 ⟨rfl, rfl⟩))
    go_returns
    exact ⟨rfl, ((Below.refl _ _).alloc (Nat.le_refl _) _).alloc (by simp) _⟩
  rcases dots with ⟨rfl, d2⟩ | rfl | ⟨rfl, d2⟩
  · rw [no (by simp [d2])]
    clear no yes fine
    go_enter Tryd.func18, Tryd.ntmps18
    go_wp2_with (first
      | (go_at_call 47; refine (R1.out _).mono ?_; rintro e w1 ⟨rfl, rfl⟩)
      | (go_at_call 26; refine (R2.out _).mono ?_; rintro e w2 ⟨rfl, rfl⟩))
    go_returns
    exact ⟨rfl, ((Below.refl _ _).alloc (Nat.le_refl _) _).alloc (by simp) _⟩
  all_goals
    rcases firsts with rfl | ⟨rfl, f2⟩ | ⟨rfl, f2⟩
  all_goals
    rcases great with g | g
  all_goals first
    | (rw [no (by simp; omega)]
       clear no yes fine
       go_enter Tryd.func18, Tryd.ntmps18
       go_wp2_with (first
         | (go_at_call 47; refine (R1.out _).mono ?_; rintro e w1 ⟨rfl, rfl⟩)
         | (go_at_call 26; refine (R2.out _).mono ?_; rintro e w2 ⟨rfl, rfl⟩))
       go_returns
       exact ⟨rfl, ((Below.refl _ _).alloc (Nat.le_refl _) _).alloc (by simp) _⟩)
    | (have w1 := (fine g).1
       have w2 := (fine g).2
       rw [yes ⟨rfl, rfl, by simp [*], by simp [*], g⟩]
       clear no yes fine
       go_enter Tryd.func18, Tryd.ntmps18
       go_wp2_with (first
         | (go_at_call 47; refine (R1.out _).mono ?_; rintro e w1 ⟨rfl, rfl⟩)
         | (go_at_call 26; refine (R2.out _).mono ?_; rintro e w2 ⟨rfl, rfl⟩))
       go_returns
       refine ⟨?_, ((Below.refl _ _).alloc (Nat.le_refl _) _).alloc (by simp) _⟩
       simp [w1, w2])
end Go.Proofs.YtpdnlojennhmpaaDoor
