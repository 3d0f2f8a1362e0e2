/- What times.Parse and the document's answer of every kind and text; no statement of the seat is proved here. -/
import Derived.Test.YtpdnlojennhmpaaDoorPqJ
import Derived.Test.YtpdnlojennhmpaaDoorPqK
namespace Go.Proofs.YtpdnlojennhmpaaDoor
set_option linter.unusedVariables false
open Go.RowKit
theorem spF_bd : ∀ (f : Nat) (l : List UInt8) (x k n : Nat), spF f l x k = some n → n ≤ 9223372036854775807
  | 0, l, x, k, n, h => by cases h
  | f + 1, l, x, k, n, h => by
    rw [spF] at h
    cases hp : ptO l k with
    | none => rw [hp] at h; cases h
    | some t =>
      obtain ⟨m, i, r⟩ := t
      rw [hp] at h
      simp only at h
      split at h
      · next g =>
        split at h
        · obtain rfl := Option.some.inj h; exact g
        · exact spF_bd f _ _ _ _ h
      · cases h
theorem ckN_bd (l : List UInt8) (h : ckOk l = true) : 0 ≤ ckN l ∧ ckN l < 86400000000000 := by
  unfold ckOk at h
  simp only [Bool.and_eq_true, decide_eq_true_eq] at h
  obtain ⟨h1, h2, h3, h4, h5⟩ := h
  have fm := ck_form l
  rw [h1] at fm
  have fm2 := fm.symm
  simp only [Bool.and_eq_true] at fm2
  obtain ⟨f0, f3, f6, _, _⟩ := fm2
  have b0 := fxN_two _ _ f0
  have b3 := fxN_two _ _ f3
  have b6 := fxN_two _ _ f6
  have fr : 0 ≤ frN 1000000000 (l.drop 9) ∧ frN 1000000000 (l.drop 9) < 1000000000 := by
    have e9 : l.drop 9 = (l.drop 8).tail := by rw [List.tail_drop]
    unfold ckT at h2
    cases g : l.drop 8 with
    | nil =>
      rw [e9, g]
      show 0 ≤ frN 1000000000 [] ∧ frN 1000000000 [] < 1000000000
      rw [frN_none]
      omega
    | cons a t =>
      rw [g] at h2
      simp only [List.isEmpty_cons, Bool.false_or, Bool.and_eq_true, List.tail_cons] at h2
      rw [e9, g, List.tail_cons]
      exact frN_nine t (run_full t (of_decide_eq_true h2.2.1)) ⟨of_decide_eq_true h2.2.2.1, of_decide_eq_true h2.2.2.2⟩
  unfold ckN
  omega
theorem dtN_bd (l : List UInt8) (h : dtOk l = true) : ∃ n : Int, dtN l = n * 86400000000000 ∧ 0 ≤ n ∧ n < 84006 := by
  unfold dtOk at h
  rw [Bool.and_eq_true] at h
  exact ⟨_, rfl, (dayN_bd _ _ _ h.2).1, (dayN_bd _ _ _ h.2).2⟩
theorem E0_list : E0.toList = [] := by rw [ByteArray.toList_eq]
theorem fit14 (n : Int) (h0 : -9223372036854775808 ≤ n) (h1 : n < 9223372036854775808) : fitOk 14 n = true := by
  unfold fitOk
  have a : may3 14 (n % 18446744073709551616) E0 = true := by simp [may3, mayW]
  have b : num 14 (n % 18446744073709551616) = n := by rw [num_s (by omega)]; unfold wrap64; omega
  rw [a, b]
  simp
theorem fitU (k n : Int) (hk : k = 15 ∨ k = 16 ∨ k = 17) (h0 : 0 ≤ n) (h1 : n < 18446744073709551616) (hm : mayW k n = true) : fitOk k n = true := by
  unfold fitOk
  have e : n % 18446744073709551616 = n := by omega
  have a : may3 k n E0 = true := by
    rcases hk with rfl | rfl | rfl <;> simp [may3, hm]
  have b : num k n = n := num_u (by omega)
  rw [e, a, b]
  simp
/-- No value. -/
abbrev noV : Value := .tuple #[V 0 0 E0, .bool false]
/-- What Parse answers. -/
def prV (k : Int) (s : ByteArray) : Value :=
  if k = 14 then (match spO (aftB 45 s).data.toList 0 0 with
    | none => noV
    | some n => .tuple #[V 14 ((if preB 45 s then -(n : Int) else n) % 18446744073709551616) E0, .bool true])
  else if k = 15 then (if dtOk s.data.toList = true then .tuple #[V 15 (dtN s.data.toList) E0, .bool true] else noV)
  else if k = 16 then (if ckOk s.data.toList = true then .tuple #[V 16 (ckN s.data.toList) E0, .bool true] else noV)
  else if k = 17 then (if boOk s.data.toList = true then .tuple #[V 17 (boN s.data.toList) E0, .bool true] else noV)
  else noV
theorem ParseC (k : Int) (s : ByteArray) (w : World) (hk : 0 ≤ k ∧ k < 256) (hs : s.size ≤ 140737488355328) (u : UT7 w) (hT : Tab w) : Calls Tryd.prog 4 #[.int .u8 k, .string s] w fun e w' => e = .returned (prV k s) ∧ Below w.heap.size w w' := by
  unfold prV
  by_cases k14 : k = 14
  · subst k14
    rw [if_pos rfl]
    have R : ∀ w1, Below w.heap.size w w1 → _ := fun w1 hb => readSpan_exact s w1 hs (u.next hb)
    unfold soV at R
    cases o : spO (aftB 45 s).data.toList 0 0 with
    | none =>
      rw [o] at R
      exact PcN_14 s w 0 R
    | some n =>
      rw [o] at R
      have nb := spF_bd 8 _ _ _ _ o
      simp only
      by_cases g : preB 45 s = true
      · rw [g] at R ⊢
        simp only [if_true] at R ⊢
        exact PcY_14 s w (-(n : Int)) (by omega) (by omega) (fit14 _ (by omega) (by omega)) R
      · have g' : preB 45 s = false := by simpa using g
        rw [g'] at R ⊢
        simp only [Bool.false_eq_true, if_false] at R ⊢
        exact PcY_14 s w (n : Int) (by omega) (by omega) (fit14 _ (by omega) (by omega)) R
  rw [if_neg k14]
  by_cases k15 : k = 15
  · subst k15
    rw [if_pos rfl]
    obtain ⟨z, h1, h2, h3⟩ := readDate_exact s hs
    by_cases g : dtOk s.data.toList = true
    · rw [if_pos g, ← h1 g]
      rw [g] at h3
      obtain ⟨n, e, n0, n1⟩ := dtN_bd _ g
      rw [← h1 g] at e
      have := PcY_15 s w z (by omega) (by omega) (fitU 15 z (by omega) (by omega) (by omega) (by rw [e]; simp [mayW]; omega)) (fun w1 hb => h3 w1 (tabN hT hb))
      rwa [show z % 18446744073709551616 = z by omega] at this
    · rw [if_neg g]
      have g' : dtOk s.data.toList = false := by simpa using g
      rw [g'] at h3
      exact PcN_15 s w z (fun w1 hb => h3 w1 (tabN hT hb))
  rw [if_neg k15]
  by_cases k16 : k = 16
  · subst k16
    rw [if_pos rfl]
    obtain ⟨z, h1, h2, h3⟩ := readClock_exact s hs
    by_cases g : ckOk s.data.toList = true
    · rw [if_pos g, ← h1 g]
      rw [g] at h3
      have b := ckN_bd _ g
      rw [← h1 g] at b
      have := PcY_16 s w z (by omega) (by omega) (fitU 16 z (by omega) (by omega) (by omega) (by simp [mayW]; omega)) (fun w1 hb => h3 w1)
      rwa [show z % 18446744073709551616 = z by omega] at this
    · rw [if_neg g]
      have g' : ckOk s.data.toList = false := by simpa using g
      rw [g'] at h3
      exact PcN_16 s w z (fun w1 hb => h3 w1)
  rw [if_neg k16]
  by_cases k17 : k = 17
  · subst k17
    rw [if_pos rfl]
    obtain ⟨z, h1, h2, h3⟩ := readBoth_exact s hs
    by_cases g : boOk s.data.toList = true
    · rw [if_pos g, ← h1 g]
      rw [g] at h3
      have q := g
      unfold boOk at q
      simp only [Bool.and_eq_true] at q
      obtain ⟨n, e, n0, n1⟩ := dtN_bd _ q.2.1
      have b := ckN_bd _ q.2.2
      have zz : z = n * 86400000000000 + ckN (s.data.toList.drop 11) := by rw [h1 g]; unfold boN; rw [e]
      have := PcY_17 s w z (by omega) (by omega) (fitU 17 z (by omega) (by omega) (by omega) (by simp [mayW]; omega)) (fun w1 hb => h3 w1 (tabN hT hb))
      rwa [show z % 18446744073709551616 = z by omega] at this
    · rw [if_neg g]
      have g' : boOk s.data.toList = false := by simpa using g
      rw [g'] at h3
      exact PcN_17 s w z (fun w1 hb => h3 w1 (tabN hT hb))
  rw [if_neg k17]
  exact PcX s w k hk (by omega)
theorem ParseR (k : Int) (s : ByteArray) (w : World) (hk : 0 ≤ k ∧ k < 256) (hs : s.size ≤ 140737488355328) : Calls Tryd.prog 5 #[.int .u8 k, .string s] w fun e w' => e = .returned (prV k s) ∧ Below w.heap.size w w' := by
  unfold prV
  by_cases k14 : k = 14
  · subst k14
    rw [if_pos rfl]
    cases p : preB 45 s with
    | true =>
      have a : aftB 45 s = s.extract 1 s.size := by unfold aftB; rw [p]; rfl
      have R : ∀ w1, _ := fun w1 => spanR_of (s.extract 1 s.size) (Nat.le_trans (ext_le _ _ _) hs) w1
      unfold soV at R
      rw [a]
      cases o : spO (s.extract 1 s.size).data.toList 0 0 with
      | none =>
        rw [o] at R
        exact PrN_14n s w p _ rfl R
      | some n =>
        rw [o] at R
        have nb := spF_bd 8 _ _ _ _ o
        simp only [if_true]
        exact PrY_14n s w n nb p _ rfl R
    | false =>
      have a : aftB 45 s = s := by unfold aftB; rw [p]; rfl
      have R : ∀ w1, _ := fun w1 => spanR_of s hs w1
      unfold soV at R
      rw [a]
      cases o : spO s.data.toList 0 0 with
      | none =>
        rw [o] at R
        exact PrN_14p s w p R
      | some n =>
        rw [o] at R
        have nb := spF_bd 8 _ _ _ _ o
        simp only [Bool.false_eq_true, if_false]
        rw [show (n : Int) % 18446744073709551616 = n by omega]
        exact PrY_14p s w n nb p R
  rw [if_neg k14]
  by_cases k15 : k = 15
  · subst k15
    rw [if_pos rfl]
    obtain ⟨z, h1, h2, h3⟩ := dateR_exact s hs
    by_cases g : dtOk s.data.toList = true
    · rw [if_pos g, ← h1 g]
      rw [g] at h3
      exact PrY_15 s w z (by omega) (by omega) h3
    · rw [if_neg g]
      have g' : dtOk s.data.toList = false := by simpa using g
      rw [g'] at h3
      exact PrN_15 s w z h3
  rw [if_neg k15]
  by_cases k16 : k = 16
  · subst k16
    rw [if_pos rfl]
    obtain ⟨z, h1, h2, h3⟩ := clockR_exact s hs
    by_cases g : ckOk s.data.toList = true
    · rw [if_pos g, ← h1 g]
      rw [g] at h3
      exact PrY_16 s w z (by omega) (by omega) h3
    · rw [if_neg g]
      have g' : ckOk s.data.toList = false := by simpa using g
      rw [g'] at h3
      exact PrN_16 s w z h3
  rw [if_neg k16]
  by_cases k17 : k = 17
  · subst k17
    rw [if_pos rfl]
    have SL : s.data.toList.length = s.size := by simp
    by_cases s11 : s.size ≤ 11
    · have f : ¬ boOk s.data.toList = true := by
        unfold boOk
        intro q
        simp only [Bool.and_eq_true] at q
        have d : s.data.toList.drop 11 = [] := List.drop_eq_nil_of_le (by omega)
        rw [d] at q
        have : ckOk [] = false := rfl
        rw [this] at q
        cases q.2.2
      rw [if_neg f]
      exact PrN_17a s w (Or.inl s11)
    · have h10 : 10 < s.size := by omega
      have g10 : s.data.toList[10]? = some s[10] := by
        rw [List.getElem?_eq_getElem (by omega)]
        rfl
      by_cases h45 : (s[10].toNat : Int) = 45
      · have e45 : s[10] = 45 := UInt8.toNat_inj.mp (by show s[10].toNat = 45; omega)
        obtain ⟨d, hd, db, hD⟩ := dateR_exact (s.extract 0 10) (Nat.le_trans (ext_le _ _ _) hs)
        obtain ⟨c, hc, cb, hC⟩ := clockR_exact (s.extract 11 s.size) (Nat.le_trans (ext_le _ _ _) hs)
        have ea : (s.extract 0 10).data.toList = s.data.toList.take 10 := by rw [q_ext]; rfl
        have eb : (s.extract 11 s.size).data.toList = s.data.toList.drop 11 := by rw [q_ext, q_all]
        rw [ea] at hd hD
        rw [eb] at hc hC
        have f : boOk s.data.toList = (dtOk (s.data.toList.take 10) && ckOk (s.data.toList.drop 11)) := by
          unfold boOk
          rw [g10, e45]
          rfl
        have r := PrB_17 s w _ _ d c _ _ (by omega) h45 rfl rfl db cb hD hC
        by_cases g : (dtOk (s.data.toList.take 10) && ckOk (s.data.toList.drop 11)) = true
        · rw [if_pos g] at r
          rw [if_pos (by rw [f]; exact g)]
          rw [Bool.and_eq_true] at g
          unfold boN
          rw [← hd g.1, ← hc g.2]
          exact r
        · rw [if_neg g] at r
          rw [if_neg (by rw [f]; exact g)]
          exact r
      · have e45 : ¬ s[10] = 45 := fun q => h45 (by rw [q]; rfl)
        have f : ¬ boOk s.data.toList = true := by
          unfold boOk
          rw [g10]
          have : (some s[10] == some (45 : UInt8)) = false := by simpa using e45
          rw [this]
          simp
        rw [if_neg f]
        exact PrN_17a s w (Or.inr ⟨h10, h45⟩)
  rw [if_neg k17]
  exact PrX_ s w k hk (by omega)
theorem prV_form (k : Int) (s : ByteArray) : ∃ k' b' p, prV k s = .tuple #[V k' b' E0, .bool p] := by
  unfold prV
  split
  · split
    · exact ⟨_, _, _, rfl⟩
    · exact ⟨_, _, _, rfl⟩
  · split
    · split
      · exact ⟨_, _, _, rfl⟩
      · exact ⟨_, _, _, rfl⟩
    · split
      · split
        · exact ⟨_, _, _, rfl⟩
        · exact ⟨_, _, _, rfl⟩
      · split
        · split
          · exact ⟨_, _, _, rfl⟩
          · exact ⟨_, _, _, rfl⟩
        · exact ⟨_, _, _, rfl⟩
set_option maxRecDepth 100000 in
set_option maxHeartbeats 4000000 in
theorem Parses_law (k : Int) (s : ByteArray) (w : World) (hk : 0 ≤ k ∧ k < 256) (hs : s.size ≤ 140737488355328) (u : UT7 w) (hT : Tab w) : Calls Tryd.prog 3 #[.int .u8 k, .string s] w fun e w' => e = .returned (.bool true) ∧ Below w.heap.size w w' := by
  have P1 : Hid _ := ParseC k s w hk hs u hT
  have P2 : Hid _ := fun w => ParseR k s w hk hs
  obtain ⟨k', b', p, e⟩ := prV_form k s
  rw [e] at P1 P2
  clear e u hT
  have E1 : ((k' : Int) == k') = true := by simp
  have E2 : ((b' : Int) == b') = true := by simp
  have E3 : (E0.toList == E0.toList) = true := by simp
  have E4 : (p == p) = true := by simp
  go_enter Tryd.func3, Tryd.ntmps3
  go_wp2_with fail
  refine Calls.mono P1.out ?_
  rintro e w1 ⟨rfl, hb⟩
  have B1 : Hid (Below w.heap.size w w1) := hb
  clear hb
  have l0 : w.heap.size ≤ w1.heap.size := B1.out.size
  go_wp2_with fail
  refine (P2.out _).mono ?_
  rintro e w2 ⟨rfl, hb⟩
  have B2 : Hid (Below w.heap.size w w2) := by
    first
    | exact B1.out.trans (hb.mono B1.out.size)
    | exact (B1.out.alloc l0 _).trans (hb.mono (by simp; omega))
  obtain ⟨c1, f1, z1, B3⟩ := bb1q hb
  clear hb
  have l2 : w.heap.size ≤ w2.heap.size := B2.out.size
  have v0 : w2.cell? ⟨w1.heap.size, 0, none⟩ = some (.int .u8 k') := by rw [c1]; simp
  have v1 : w2.cell? ⟨w1.heap.size, 1, none⟩ = some (.int .u64 b') := by rw [c1]; simp
  have v2 : w2.cell? ⟨w1.heap.size, 2, none⟩ = some (.string E0) := by rw [c1]; simp
  cases p
  all_goals
    go_wp2
    go_ret
    exact ⟨rfl, by first | exact B2.out | exact B2.out.alloc l2 _⟩
end Go.Proofs.YtpdnlojennhmpaaDoor
