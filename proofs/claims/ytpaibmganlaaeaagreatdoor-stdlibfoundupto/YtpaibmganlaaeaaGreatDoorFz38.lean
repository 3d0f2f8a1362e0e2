/- Rows of kinds copied and compared, and both Finds, for every name and kinds; no statement of the seat is proved here. -/
import Derived.Test.YtpaibmganlaaeaaGreatDoorFz29
import Derived.Test.YtpaibmganlaaeaaGreatDoorFz30
import Derived.Test.YtpaibmganlaaeaaGreatDoorFz31
import Derived.Test.YtpaibmganlaaeaaGreatDoorFz32
import Derived.Test.YtpaibmganlaaeaaGreatDoorFz33
import Derived.Test.YtpaibmganlaaeaaGreatDoorFz34
import Derived.Test.YtpaibmganlaaeaaGreatDoorFz35
import Derived.Test.YtpaibmganlaaeaaGreatDoorFz36
import Derived.Test.YtpaibmganlaaeaaGreatDoorFz37
import Derived.Deep.QuietTactic
namespace Go.Proofs.YtpaibmganlaaeaaGreatDoor
set_option linter.unusedVariables false
open Go.RowKit
theorem ct_many (x n : Nat) (hx : 0 < x) (h1 : 1 ≤ n) (h2 : n ≤ 16) : ctB x 2 n = decide (2 ≤ n) := by
  unfold ctB
  rw [Bool.eq_iff_iff]
  simp
  omega
theorem ct_one (c n : Nat) (hc : 0 < c) : ctB 0 c n = decide (n = c) := by
  unfold ctB
  rw [Bool.eq_iff_iff]
  simp
  omega
theorem allS_1 {n : Nat} {κ : Nat → Int} (h : allS n κ = true) (i : Nat) (hi : i < n) : κ i = κ 0 := of_decide_eq_true h i hi
theorem com_y {n : Nat} {κ : Nat → Int} (h : allS n κ = true) (he : 1 ≤ κ 0 ∧ κ 0 ≤ 19) : comK n κ = κ 0 := by unfold comK zeroK; rw [if_pos h, if_pos he]
theorem com_n {n : Nat} {κ : Nat → Int} (h : allS n κ = false) : comK n κ = 0 := by unfold comK; rw [h]; rfl
theorem allS_2 (κ : Nat → Int) : allS 2 κ = (κ 1 == κ 0) := by
  unfold allS
  rw [Bool.eq_iff_iff]
  simp
  constructor
  · intro h; exact h 1 (by omega)
  · intro h i hi
    rcases (by omega : i = 0 ∨ i = 1) with rfl | rfl
    · rfl
    · exact h
theorem s13 (op : Int) (n : Nat) (κ : Nat → Int) (h1 : 1 ≤ n) (h2 : n ≤ 16) (he : 1 ≤ κ 0 ∧ κ 0 ≤ 19) :
    (if n = 2 then resK op (κ 0) (κ 1) else if 2 < n ∧ allS n κ = true ∧ resK op (κ 0) (κ 0) = κ 0 then κ 0 else 0) = if ctB 3 2 n = true then rcN op n κ else 0 := by
  rw [show ctB 3 2 n = decide (2 ≤ n) from ct_many 3 n (by decide) h1 h2]
  unfold rcN
  by_cases n2 : n = 2
  · subst n2
    rw [if_pos rfl, if_pos (by decide), if_neg (fun q => absurd q.1 (by decide))]
  · rw [if_neg n2]
    by_cases n3 : 2 < n
    · rw [if_pos (c := decide (2 ≤ n) = true) (decide_eq_true (by omega))]
      cases a : allS n κ
      · rw [if_neg (fun q => by cases q.2.1), com_n a]
        by_cases r : resK op (κ 0) (κ 1) = 0
        · rw [r, if_neg (fun q => q.2 rfl)]
        · rw [if_pos ⟨n3, fun q => r q.symm⟩]
      · rw [com_y a he, allS_1 a 1 (by omega)]
        by_cases r : resK op (κ 0) (κ 0) = κ 0
        · rw [if_pos ⟨n3, rfl, r⟩, if_neg (fun q => q.2 r.symm), r]
        · rw [if_neg (fun q => r q.2.2), if_pos ⟨n3, fun q => r q.symm⟩]
    · rw [if_neg (fun q => n3 q.1), if_neg (c := decide (2 ≤ n) = true) (by simp; omega)]
theorem s245 (op : Int) (n : Nat) (κ : Nat → Int) : (if n = 2 then resK op (κ 0) (κ 1) else 0) = if ctB 0 2 n = true then rcN op n κ else 0 := by
  rw [show ctB 0 2 n = decide (n = 2) from ct_one 2 n (by decide)]
  unfold rcN
  by_cases n2 : n = 2
  · subst n2
    rw [if_pos rfl, if_pos (by decide), if_neg (fun q => absurd q.1 (by decide))]
  · rw [if_neg n2, if_neg (by simpa using n2)]
theorem res678 (op k : Int) (ho : 6 ≤ op ∧ op ≤ 8) : resK op k k = k ∨ resK op k k = 0 := by
  unfold resK
  repeat' split
  all_goals first | exact .inl rfl | exact .inr rfl | omega
theorem res678d (op k k' : Int) (ho : 6 ≤ op ∧ op ≤ 8) (h : ¬ k = k') : resK op k k' = 0 := by
  unfold resK
  repeat' split
  all_goals first | rfl | omega
theorem s678 (op : Int) (ho : 6 ≤ op ∧ op ≤ 8) (n : Nat) (κ : Nat → Int) (h1 : 1 ≤ n) (h2 : n ≤ 16) (he : 1 ≤ κ 0 ∧ κ 0 ≤ 19) :
    (if 2 ≤ n ∧ allS n κ = true ∧ ¬ resK op (κ 0) (κ 0) = 0 then κ 0 else 0) = if ctB 3 2 n = true then rcN op n κ else 0 := by
  rw [show ctB 3 2 n = decide (2 ≤ n) from ct_many 3 n (by decide) h1 h2]
  unfold rcN
  by_cases n2 : 2 ≤ n
  · rw [if_pos (c := decide (2 ≤ n) = true) (decide_eq_true n2)]
    cases a : allS n κ
    · rw [if_neg (fun q => by cases q.2.1), com_n a]
      by_cases n3 : 2 < n
      · by_cases r : resK op (κ 0) (κ 1) = 0
        · rw [r, if_neg (fun q => q.2 rfl)]
        · rw [if_pos ⟨n3, fun q => r q.symm⟩]
      · obtain rfl : n = 2 := by omega
        rw [allS_2] at a
        rw [if_neg (fun q => n3 q.1), res678d op _ _ ho (fun q => by simp [q] at a)]
    · rw [com_y a he, allS_1 a 1 (by omega)]
      rcases res678 op (κ 0) ho with r | r
      · rw [r, if_pos ⟨n2, rfl, by omega⟩, if_neg (fun q => q.2 rfl)]
      · rw [r, if_neg (fun q => q.2.2 rfl)]
        by_cases n3 : 2 < n
        · rw [if_pos ⟨n3, by omega⟩]
        · rw [if_neg (fun q => n3 q.1)]
  · rw [if_neg (fun q => n2 q.1), if_neg (c := decide (2 ≤ n) = true) (by simpa using n2)]
theorem gv1 (n : Nat) (κ : Nat → Int) (he : 1 ≤ κ 0 ∧ κ 0 ≤ 19) : gvK 1 (comK n κ != 0) = if allS n κ = true then 1 else 0 := by
  cases a : allS n κ
  · rw [com_n a]; rfl
  · rw [com_y a he, if_pos rfl]
    have : (κ 0 != 0) = true := by simp; omega
    rw [this]; rfl
theorem scmp (n : Nat) (κ : Nat → Int) (h1 : 1 ≤ n) (h2 : n ≤ 16) (he : 1 ≤ κ 0 ∧ κ 0 ≤ 19) : (if 2 ≤ n ∧ allS n κ = true then (1 : Int) else 0) = if ctB 3 2 n = true then gvK 1 (comK n κ != 0) else 0 := by
  rw [show ctB 3 2 n = decide (2 ≤ n) from ct_many 3 n (by decide) h1 h2, gv1 n κ he]
  by_cases n2 : 2 ≤ n <;> simp [n2]
theorem scmp2 (n : Nat) (κ : Nat → Int) (he : 1 ≤ κ 0 ∧ κ 0 ≤ 19) : (if n = 2 ∧ allS n κ = true then (1 : Int) else 0) = if ctB 0 2 n = true then gvK 1 (comK n κ != 0) else 0 := by
  rw [show ctB 0 2 n = decide (n = 2) from ct_one 2 n (by decide), gv1 n κ he]
  by_cases n2 : n = 2 <;> simp [n2]
theorem com_if (n : Nat) (κ : Nat → Int) (he : 1 ≤ κ 0 ∧ κ 0 ≤ 19) : comK n κ = if allS n κ = true then κ 0 else 0 := by
  cases a : allS n κ
  · rw [com_n a]; rfl
  · rw [com_y a he, if_pos rfl]
theorem smin (n : Nat) (κ : Nat → Int) (h1 : 1 ≤ n) (h2 : n ≤ 16) (he : 1 ≤ κ 0 ∧ κ 0 ≤ 19) : (if 2 ≤ n ∧ allS n κ = true then κ 0 else 0) = if ctB 3 2 n = true then comK n κ else 0 := by
  rw [show ctB 3 2 n = decide (2 ≤ n) from ct_many 3 n (by decide) h1 h2, com_if n κ he]
  by_cases n2 : 2 ≤ n <;> simp [n2]
theorem slim (n : Nat) (κ : Nat → Int) (he : 1 ≤ κ 0 ∧ κ 0 ≤ 19) : (if n = 3 ∧ allS n κ = true then κ 0 else 0) = if ctB 0 3 n = true then comK n κ else 0 := by
  rw [show ctB 0 3 n = decide (n = 3) from ct_one 3 n (by decide), com_if n κ he]
  by_cases n2 : n = 3 <;> simp [n2]
theorem smove (n : Nat) (κ : Nat → Int) (he : 1 ≤ κ 0 ∧ κ 0 ≤ 19) : (if n = 1 then gvK (κ 0) true else 0) = if ctB 0 1 n = true then comK n κ else 0 := by
  rw [show ctB 0 1 n = decide (n = 1) from ct_one 1 n (by decide)]
  by_cases n2 : n = 1
  · subst n2
    have a : allS 1 κ = true := by
      unfold allS
      exact decide_eq_true (fun i hi => by obtain rfl : i = 0 := (by omega); rfl)
    rw [com_y a he]
    rfl
  · simp [n2]
theorem sgen (c n : Nat) (hc : 0 < c) (A B : Int) (h : n = c → A = B) : (if n = c then A else 0) = if ctB 0 c n = true then B else 0 := by
  rw [show ctB 0 c n = decide (n = c) from ct_one c n hc]
  by_cases n2 : n = c
  · rw [if_pos n2, if_pos (decide_eq_true n2), h n2]
  · rw [if_neg n2, if_neg (by simpa using n2)]
theorem ssel (n : Nat) (κ : Nat → Int) : (if n = 3 ∧ κ 0 = 1 ∧ κ 1 = κ 2 ∧ (1 ≤ κ 1 ∧ κ 1 ≤ 19) then κ 1 else 0) = if ctB 0 3 n = true then gvK (comK (n - 1) (fun i => κ (1 + i))) (κ 0 == 1) else 0 := by
  rw [show ctB 0 3 n = decide (n = 3) from ct_one 3 n (by decide)]
  by_cases n2 : n = 3
  · subst n2
    simp only [true_and, decide_true, if_true]
    have e : allS (3 - 1) (fun i => κ (1 + i)) = (κ 2 == κ 1) := allS_2 (fun i => κ (1 + i))
    unfold comK
    rw [e]
    by_cases z : κ 0 = 1
    · have zz : (κ 0 == 1) = true := by simpa using z
      rw [zz]
      show _ = (if (κ 2 == κ 1) = true then zeroK (κ 1) else 0)
      by_cases q : κ 1 = κ 2
      · rw [if_pos (c := (κ 2 == κ 1) = true) (by simpa using q.symm)]
        unfold zeroK
        by_cases g : 1 ≤ κ 1 ∧ κ 1 ≤ 19
        · rw [if_pos ⟨z, q, g⟩, if_pos g]
        · rw [if_neg (fun t => g t.2.2), if_neg g]
      · rw [if_neg (fun t => q t.2.1), if_neg (by simp; exact fun t => q t.symm)]
    · have zz : (κ 0 == 1) = false := by simpa using z
      rw [zz, if_neg (fun t => z t.1)]
      rfl
  · rw [if_neg (fun q => n2 q.1), if_neg (by simpa using n2)]
theorem smux (n : Nat) (κ : Nat → Int) (h1 : 1 ≤ n) (h2 : n ≤ 16) : (if 2 ≤ n ∧ intK (κ 0) = true ∧ allS (n - 1) (fun i => κ (1 + i)) = true ∧ (1 ≤ κ 1 ∧ κ 1 ≤ 19) then κ 1 else 0) = if ctB 1 2 n = true then gvK (comK (n - 1) (fun i => κ (1 + i))) (intK (κ 0)) else 0 := by
  rw [show ctB 1 2 n = decide (2 ≤ n) from ct_many 1 n (by decide) h1 h2]
  by_cases n2 : 2 ≤ n
  · rw [if_pos (c := decide (2 ≤ n) = true) (decide_eq_true n2)]
    unfold comK
    cases intK (κ 0)
    · rw [if_neg (fun q => by cases q.2.1)]; rfl
    · show _ = (if allS (n - 1) (fun i => κ (1 + i)) = true then zeroK (κ 1) else 0)
      cases allS (n - 1) (fun i => κ (1 + i))
      · rw [if_neg (fun q => by cases q.2.2.1)]; rfl
      · unfold zeroK
        by_cases g : 1 ≤ κ 1 ∧ κ 1 ≤ 19
        · rw [if_pos ⟨n2, rfl, rfl, g⟩, if_pos rfl, if_pos g]
        · rw [if_neg (fun t => g t.2.2.2), if_pos rfl, if_neg g]
  · rw [if_neg (fun q => n2 q.1), if_neg (c := decide (2 ≤ n) = true) (by simpa using n2)]
theorem not_eq (κ : Nat → Int) : gvK (κ 0) (κ 0 == 1 || rowK (κ 0)) = tnK (κ 0) := by
  unfold gvK tnK rowK
  by_cases c : κ 0 = 1 ∨ 10 ≤ κ 0 ∧ κ 0 ≤ 13
  · rw [if_pos c, if_pos (by simpa using c)]
  · rw [if_neg c, if_neg (by simpa using c)]
theorem allT_1 (κ : Nat → Int) : allT 1 κ = (κ 0 == 19) := by
  unfold allT
  rw [Bool.eq_iff_iff]
  simp
theorem allT_2 (κ : Nat → Int) : allT 2 κ = (κ 0 == 19 && κ 1 == κ 0) := by
  unfold allT
  rw [Bool.eq_iff_iff]
  simp
  constructor
  · intro h; exact ⟨h 0 (by omega), (h 1 (by omega)).trans (h 0 (by omega)).symm⟩
  · intro h i hi
    rcases (by omega : i = 0 ∨ i = 1) with rfl | rfl
    · exact h.1
    · exact h.2.trans h.1
theorem allI_1 (κ : Nat → Int) : allI 1 κ = intK (κ 0) := by
  unfold allI
  rw [Bool.eq_iff_iff]
  simp
theorem allI_2 (κ : Nat → Int) : allI 2 κ = (intK (κ 0) && intK (κ 1)) := by
  unfold allI
  rw [Bool.eq_iff_iff]
  simp
  constructor
  · intro h; exact ⟨h 0 (by omega), h 1 (by omega)⟩
  · intro h i hi
    rcases (by omega : i = 0 ∨ i = 1) with rfl | rfl
    · exact h.1
    · exact h.2
theorem gv_k0 (κ : Nat → Int) (b : Bool) : gvK (κ 0) (κ 0 == 19 && b) = gvK 19 (κ 0 == 19 && b) := by
  by_cases c : κ 0 = 19
  · rw [c]
  · have : (κ 0 == 19) = false := by simpa using c
    rw [this]; rfl
theorem sconc (n : Nat) (κ : Nat → Int) (h1 : 1 ≤ n) (h2 : n ≤ 16) : (if 2 ≤ n then gvK (κ 0) (κ 0 == 19 && allS n κ) else 0) = if ctB 3 2 n = true then gvK 19 (allT n κ) else 0 := by
  rw [show ctB 3 2 n = decide (2 ≤ n) from ct_many 3 n (by decide) h1 h2, gv_k0]
  have e : (κ 0 == 19 && allS n κ) = allT n κ := by
    unfold allS allT
    rw [Bool.eq_iff_iff]
    simp
    constructor
    · intro h i hi; rw [h.2 i hi, h.1]
    · intro h; exact ⟨h 0 (by omega), fun i hi => (h i hi).trans (h 0 (by omega)).symm⟩
  rw [e]
  by_cases n2 : 2 ≤ n <;> simp [n2]
/-- The table's functions, one by one. -/
theorem oA_T (k n : Nat) (κ : Nat → Int) (h1 : 1 ≤ k) (h2 : k < 37) : oA (k : Int) n κ = if ctB (pmT k).2 (pmT k).1.length n = true then tkT k n κ else 0 := by
  unfold oA ctA tkA
  have P := pm_A (k : Int)
  rw [P.nx]
  have e2 : pmA (k : Int) = pmT k := by unfold pmA; rw [if_pos (by omega)]; simp
  rw [e2, if_pos (c := 1 ≤ (k : Int) ∧ (k : Int) ≤ 36) (by omega)]
  simp
theorem oA_C (k n : Nat) (κ : Nat → Int) (h1 : 65 ≤ k) (h2 : k < 84) : oA (k : Int) n κ = if ctB 0 1 n = true then gvK ((k : Int) - 64) (cvU ((k : Int) - 64) (κ 0)) else 0 := by
  unfold oA ctA tkA
  have P := pm_A (k : Int)
  rw [P.nx]
  have e2 : pmA (k : Int) = ([⟨#[73, 78]⟩], 0) := by unfold pmA; rw [if_neg (by omega), if_pos (by omega)]
  rw [e2, if_neg (c := 1 ≤ (k : Int) ∧ (k : Int) ≤ 36) (by omega)]
  rfl
set_option maxRecDepth 20000 in
set_option maxHeartbeats 2000000 in
theorem givR_A (k : Nat) (hz : 1 ≤ k ∧ k ≤ 36 ∨ 65 ≤ k ∧ k ≤ 83) (a : Addr) (n cap : Nat) (κ : Nat → Int) (w : World) (hP : Pow w) (hk : KsAt w a n κ) (h1 : 1 ≤ n) (h2 : n ≤ 16) (hcap : n ≤ cap) (hr : ∀ i, 0 ≤ κ i ∧ κ i < 256) (he : 1 ≤ κ 0 ∧ κ 0 ≤ 19) :
    Calls Tryz.prog 14 #[.int .i64 k, .slice (some a) n cap] w fun e w' => e = .returned (.int .u8 (oA k n κ)) ∧ Below w.heap.size w w' := by
  by_cases hc : 65 ≤ k
  · have e := oA_C k n κ hc (by omega)
    rw [e, ← sgen 1 n (by decide) _ _ (fun _ => rfl)]
    clear e
    rcases (by omega : k = 65 ∨ k = 66 ∨ k = 67 ∨ k = 68 ∨ k = 69 ∨ k = 70 ∨ k = 71 ∨ k = 72 ∨ k = 73 ∨ k = 74 ∨ k = 75 ∨ k = 76 ∨ k = 77 ∨ k = 78 ∨ k = 79 ∨ k = 80 ∨ k = 81 ∨ k = 82 ∨ k = 83) with rfl | rfl | rfl | rfl | rfl | rfl | rfl | rfl | rfl | rfl | rfl | rfl | rfl | rfl | rfl | rfl | rfl | rfl | rfl
    · exact gv_rest 65 _ a n cap κ w (by decide) hk h1 h2 he (ov_65 a n cap κ w hk h1 h2 hcap hr hP)
    · exact gv_rest 66 _ a n cap κ w (by decide) hk h1 h2 he (ov_66 a n cap κ w hk h1 h2 hcap hr hP)
    · exact gv_rest 67 _ a n cap κ w (by decide) hk h1 h2 he (ov_67 a n cap κ w hk h1 h2 hcap hr hP)
    · exact gv_rest 68 _ a n cap κ w (by decide) hk h1 h2 he (ov_68 a n cap κ w hk h1 h2 hcap hr hP)
    · exact gv_rest 69 _ a n cap κ w (by decide) hk h1 h2 he (ov_69 a n cap κ w hk h1 h2 hcap hr hP)
    · exact gv_rest 70 _ a n cap κ w (by decide) hk h1 h2 he (ov_70 a n cap κ w hk h1 h2 hcap hr hP)
    · exact gv_rest 71 _ a n cap κ w (by decide) hk h1 h2 he (ov_71 a n cap κ w hk h1 h2 hcap hr hP)
    · exact gv_rest 72 _ a n cap κ w (by decide) hk h1 h2 he (ov_72 a n cap κ w hk h1 h2 hcap hr hP)
    · exact gv_rest 73 _ a n cap κ w (by decide) hk h1 h2 he (ov_73 a n cap κ w hk h1 h2 hcap hr hP)
    · exact gv_rest 74 _ a n cap κ w (by decide) hk h1 h2 he (ov_74 a n cap κ w hk h1 h2 hcap hr hP)
    · exact gv_rest 75 _ a n cap κ w (by decide) hk h1 h2 he (ov_75 a n cap κ w hk h1 h2 hcap hr hP)
    · exact gv_rest 76 _ a n cap κ w (by decide) hk h1 h2 he (ov_76 a n cap κ w hk h1 h2 hcap hr hP)
    · exact gv_rest 77 _ a n cap κ w (by decide) hk h1 h2 he (ov_77 a n cap κ w hk h1 h2 hcap hr hP)
    · exact gv_rest 78 _ a n cap κ w (by decide) hk h1 h2 he (ov_78 a n cap κ w hk h1 h2 hcap hr hP)
    · exact gv_rest 79 _ a n cap κ w (by decide) hk h1 h2 he (ov_79 a n cap κ w hk h1 h2 hcap hr hP)
    · exact gv_rest 80 _ a n cap κ w (by decide) hk h1 h2 he (ov_80 a n cap κ w hk h1 h2 hcap hr hP)
    · exact gv_rest 81 _ a n cap κ w (by decide) hk h1 h2 he (ov_81 a n cap κ w hk h1 h2 hcap hr hP)
    · exact gv_rest 82 _ a n cap κ w (by decide) hk h1 h2 he (ov_82 a n cap κ w hk h1 h2 hcap hr hP)
    · exact gv_rest 83 _ a n cap κ w (by decide) hk h1 h2 he (ov_83 a n cap κ w hk h1 h2 hcap hr hP)
  · rw [oA_T k n κ (by omega) (by omega)]
    match k, hz, hc with
    | 1, _, _ =>
      refine Calls.mono (gv_1 a n cap κ w hk h1 h2 he) (fun e w' q => ⟨q.1.trans ?_, q.2⟩)
      exact congrArg (fun x => Ending.returned (.int .u8 x)) (s13 1 n κ h1 h2 he)
    | 2, _, _ =>
      refine Calls.mono (gv_2 a n cap κ w hk h1 h2 he) (fun e w' q => ⟨q.1.trans ?_, q.2⟩)
      exact congrArg (fun x => Ending.returned (.int .u8 x)) (s245 2 n κ)
    | 3, _, _ =>
      refine Calls.mono (gv_3 a n cap κ w hk h1 h2 he) (fun e w' q => ⟨q.1.trans ?_, q.2⟩)
      exact congrArg (fun x => Ending.returned (.int .u8 x)) (s13 3 n κ h1 h2 he)
    | 4, _, _ =>
      refine Calls.mono (gv_4 a n cap κ w hk h1 h2 he) (fun e w' q => ⟨q.1.trans ?_, q.2⟩)
      exact congrArg (fun x => Ending.returned (.int .u8 x)) (s245 4 n κ)
    | 5, _, _ =>
      refine Calls.mono (gv_5 a n cap κ w hk h1 h2 he) (fun e w' q => ⟨q.1.trans ?_, q.2⟩)
      exact congrArg (fun x => Ending.returned (.int .u8 x)) (s245 5 n κ)
    | 6, _, _ =>
      refine Calls.mono (gv_6 a n cap κ w hk h1 h2 he) (fun e w' q => ⟨q.1.trans ?_, q.2⟩)
      exact congrArg (fun x => Ending.returned (.int .u8 x)) (s678 6 (by decide) n κ h1 h2 he)
    | 7, _, _ =>
      refine Calls.mono (gv_7 a n cap κ w hk h1 h2 he) (fun e w' q => ⟨q.1.trans ?_, q.2⟩)
      exact congrArg (fun x => Ending.returned (.int .u8 x)) (s678 7 (by decide) n κ h1 h2 he)
    | 8, _, _ =>
      refine Calls.mono (gv_8 a n cap κ w hk h1 h2 he) (fun e w' q => ⟨q.1.trans ?_, q.2⟩)
      exact congrArg (fun x => Ending.returned (.int .u8 x)) (s678 8 (by decide) n κ h1 h2 he)
    | 9, _, _ =>
      refine Calls.mono (gv_rest 9 _ a n cap κ w (by decide) hk h1 h2 he (ov_9 a n cap κ w hk h1 h2 hcap hr)) (fun e w' q => ⟨q.1.trans ?_, q.2⟩)
      exact congrArg (fun x => Ending.returned (.int .u8 x)) (sgen 1 n (by decide) _ _ (fun _ => not_eq κ))
    | 10, _, _ =>
      refine Calls.mono (gv_10 a n cap κ w hk h1 h2 he) (fun e w' q => ⟨q.1.trans ?_, q.2⟩)
      exact congrArg (fun x => Ending.returned (.int .u8 x)) (scmp n κ h1 h2 he)
    | 11, _, _ =>
      refine Calls.mono (gv_11 a n cap κ w hk h1 h2 he) (fun e w' q => ⟨q.1.trans ?_, q.2⟩)
      exact congrArg (fun x => Ending.returned (.int .u8 x)) (scmp2 n κ he)
    | 12, _, _ =>
      refine Calls.mono (gv_12 a n cap κ w hk h1 h2 he) (fun e w' q => ⟨q.1.trans ?_, q.2⟩)
      exact congrArg (fun x => Ending.returned (.int .u8 x)) (scmp n κ h1 h2 he)
    | 13, _, _ =>
      refine Calls.mono (gv_13 a n cap κ w hk h1 h2 he) (fun e w' q => ⟨q.1.trans ?_, q.2⟩)
      exact congrArg (fun x => Ending.returned (.int .u8 x)) (scmp n κ h1 h2 he)
    | 14, _, _ =>
      refine Calls.mono (gv_14 a n cap κ w hk h1 h2 he) (fun e w' q => ⟨q.1.trans ?_, q.2⟩)
      exact congrArg (fun x => Ending.returned (.int .u8 x)) (scmp n κ h1 h2 he)
    | 15, _, _ =>
      refine Calls.mono (gv_15 a n cap κ w hk h1 h2 he) (fun e w' q => ⟨q.1.trans ?_, q.2⟩)
      exact congrArg (fun x => Ending.returned (.int .u8 x)) (scmp n κ h1 h2 he)
    | 16, _, _ =>
      refine Calls.mono (gv_rest 16 _ a n cap κ w (by decide) hk h1 h2 he (ov_16 a n cap κ w hk h1 h2 hcap hr)) (fun e w' q => ⟨q.1.trans ?_, q.2⟩)
      exact congrArg (fun x => Ending.returned (.int .u8 x)) (smove n κ he)
    | 17, _, _ =>
      refine Calls.mono (gv_rest 17 _ a n cap κ w (by decide) hk h1 h2 he (ov_17 a n cap κ w hk h1 h2 hcap hr)) (fun e w' q => ⟨q.1.trans ?_, q.2⟩)
      exact congrArg (fun x => Ending.returned (.int .u8 x)) (sgen 1 n (by decide) _ _ (fun _ => rfl))
    | 18, _, _ =>
      refine Calls.mono (gv_18 a n cap κ w hk h1 h2 he) (fun e w' q => ⟨q.1.trans ?_, q.2⟩)
      exact congrArg (fun x => Ending.returned (.int .u8 x)) (smin n κ h1 h2 he)
    | 19, _, _ =>
      refine Calls.mono (gv_19 a n cap κ w hk h1 h2 he) (fun e w' q => ⟨q.1.trans ?_, q.2⟩)
      exact congrArg (fun x => Ending.returned (.int .u8 x)) (smin n κ h1 h2 he)
    | 20, _, _ =>
      refine Calls.mono (gv_20 a n cap κ w hk h1 h2 he) (fun e w' q => ⟨q.1.trans ?_, q.2⟩)
      exact congrArg (fun x => Ending.returned (.int .u8 x)) (slim n κ he)
    | 21, _, _ =>
      refine Calls.mono (gv_21 a n cap κ w hk h1 h2 he) (fun e w' q => ⟨q.1.trans ?_, q.2⟩)
      exact congrArg (fun x => Ending.returned (.int .u8 x)) (ssel n κ)
    | 22, _, _ =>
      refine Calls.mono (gv_22 a n cap κ w hk h1 h2 he hcap) (fun e w' q => ⟨q.1.trans ?_, q.2⟩)
      exact congrArg (fun x => Ending.returned (.int .u8 x)) (smux n κ h1 h2)
    | 23, _, _ =>
      refine Calls.mono (gv_rest 23 _ a n cap κ w (by decide) hk h1 h2 he (ov_23 a n cap κ w hk h1 h2 hcap hr)) (fun e w' q => ⟨q.1.trans ?_, q.2⟩)
      exact congrArg (fun x => Ending.returned (.int .u8 x)) (sgen 2 n (by decide) _ _ (fun q => by subst q; show _ = gvK (κ 0) (rowK (κ 0) && intK (κ 1)); rw [show 2 - 1 = 1 from rfl, allI_1]))
    | 24, _, _ =>
      refine Calls.mono (gv_rest 24 _ a n cap κ w (by decide) hk h1 h2 he (ov_24 a n cap κ w hk h1 h2 hcap hr)) (fun e w' q => ⟨q.1.trans ?_, q.2⟩)
      exact congrArg (fun x => Ending.returned (.int .u8 x)) (sgen 2 n (by decide) _ _ (fun q => by subst q; show _ = gvK (κ 0) (rowK (κ 0) && intK (κ 1)); rw [show 2 - 1 = 1 from rfl, allI_1]))
    | 25, _, _ =>
      refine Calls.mono (gv_rest 25 _ a n cap κ w (by decide) hk h1 h2 he (ov_25 a n cap κ w hk h1 h2 hcap hr)) (fun e w' q => ⟨q.1.trans ?_, q.2⟩)
      exact congrArg (fun x => Ending.returned (.int .u8 x)) (sgen 2 n (by decide) _ _ (fun q => by subst q; show _ = gvK (κ 0) (rowK (κ 0) && intK (κ 1)); rw [show 2 - 1 = 1 from rfl, allI_1]))
    | 26, _, _ =>
      refine Calls.mono (gv_rest 26 _ a n cap κ w (by decide) hk h1 h2 he (ov_26 a n cap κ w hk h1 h2 hcap hr)) (fun e w' q => ⟨q.1.trans ?_, q.2⟩)
      exact congrArg (fun x => Ending.returned (.int .u8 x)) (sgen 2 n (by decide) _ _ (fun q => by subst q; show _ = gvK (κ 0) (rowK (κ 0) && intK (κ 1)); rw [show 2 - 1 = 1 from rfl, allI_1]))
    | 27, _, _ =>
      refine Calls.mono (gv_rest 27 _ a n cap κ w (by decide) hk h1 h2 he (ov_27 a n cap κ w hk h1 h2 hcap hr)) (fun e w' q => ⟨q.1.trans ?_, q.2⟩)
      exact congrArg (fun x => Ending.returned (.int .u8 x)) (sgen 1 n (by decide) _ _ (fun q => by subst q; show _ = gvK 3 (oneB 1 κ); unfold oneB; rw [allT_1, show 1 - 1 = 0 from rfl, allI_0, Bool.and_true]))
    | 28, _, _ =>
      refine Calls.mono (gv_rest 28 _ a n cap κ w (by decide) hk h1 h2 he (ov_28 a n cap κ w hk h1 h2 hcap hr)) (fun e w' q => ⟨q.1.trans ?_, q.2⟩)
      exact congrArg (fun x => Ending.returned (.int .u8 x)) (sgen 2 n (by decide) _ _ (fun q => by show _ = gvK 19 (oneB n κ); unfold oneB; rw [allT_1, gv_k0]))
    | 29, _, _ =>
      refine Calls.mono (gv_rest 29 _ a n cap κ w (by decide) hk h1 h2 he (ov_29 a n cap κ w hk h1 h2 hcap hr)) (fun e w' q => ⟨q.1.trans ?_, q.2⟩)
      exact congrArg (fun x => Ending.returned (.int .u8 x)) (sgen 2 n (by decide) _ _ (fun q => by show _ = gvK 19 (oneB n κ); unfold oneB; rw [allT_1, gv_k0]))
    | 30, _, _ =>
      refine Calls.mono (gv_rest 30 _ a n cap κ w (by decide) hk h1 h2 he (ov_30 a n cap κ w hk h1 h2 hcap hr)) (fun e w' q => ⟨q.1.trans ?_, q.2⟩)
      exact congrArg (fun x => Ending.returned (.int .u8 x)) (sgen 3 n (by decide) _ _ (fun q => by show _ = gvK 19 (oneB n κ); unfold oneB; rw [allT_1, gv_k0]))
    | 31, _, _ =>
      refine Calls.mono (gv_rest 31 _ a n cap κ w (by decide) hk h1 h2 he (ov_31 a n cap κ w hk h1 h2 hcap hr)) (fun e w' q => ⟨q.1.trans ?_, q.2⟩)
      exact congrArg (fun x => Ending.returned (.int .u8 x)) (sconc n κ h1 h2)
    | 32, _, _ =>
      refine Calls.mono (gv_rest 32 _ a n cap κ w (by decide) hk h1 h2 he (ov_32 a n cap κ w hk h1 h2 hcap hr)) (fun e w' q => ⟨q.1.trans ?_, q.2⟩)
      exact congrArg (fun x => Ending.returned (.int .u8 x)) (sgen 3 n (by decide) _ _ (fun q => by subst q; show _ = gvK 19 (twoB 3 κ); unfold twoB; rw [allT_2, show 3 - 2 = 1 from rfl, allI_1, Bool.and_assoc, gv_k0]))
    | 33, _, _ =>
      refine Calls.mono (gv_rest 33 _ a n cap κ w (by decide) hk h1 h2 he (ov_33 a n cap κ w hk h1 h2 hcap hr)) (fun e w' q => ⟨q.1.trans ?_, q.2⟩)
      exact congrArg (fun x => Ending.returned (.int .u8 x)) (sgen 3 n (by decide) _ _ (fun q => by show _ = gvK 19 (oneB n κ); unfold oneB; rw [allT_1, gv_k0]))
    | 34, _, _ =>
      refine Calls.mono (gv_rest 34 _ a n cap κ w (by decide) hk h1 h2 he (ov_34 a n cap κ w hk h1 h2 hcap hr)) (fun e w' q => ⟨q.1.trans ?_, q.2⟩)
      exact congrArg (fun x => Ending.returned (.int .u8 x)) (sgen 4 n (by decide) _ _ (fun q => by subst q; show _ = gvK 19 (twoB 4 κ); unfold twoB; rw [allT_2, show 4 - 2 = 2 from rfl, allI_2, Bool.and_assoc, Bool.and_assoc, gv_k0]))
    | 35, _, _ =>
      refine Calls.mono (gv_rest 35 _ a n cap κ w (by decide) hk h1 h2 he (ov_35 a n cap κ w hk h1 h2 hcap hr)) (fun e w' q => ⟨q.1.trans ?_, q.2⟩)
      exact congrArg (fun x => Ending.returned (.int .u8 x)) (sgen 2 n (by decide) _ _ (fun q => by subst q; show _ = gvK 3 (twoB 2 κ); unfold twoB; rw [allT_2, show 2 - 2 = 0 from rfl, allI_0, Bool.and_true]))
    | 36, _, _ =>
      refine Calls.mono (gv_rest 36 _ a n cap κ w (by decide) hk h1 h2 he (ov_36 a n cap κ w hk h1 h2 hcap hr)) (fun e w' q => ⟨q.1.trans ?_, q.2⟩)
      exact congrArg (fun x => Ending.returned (.int .u8 x)) (sgen 1 n (by decide) _ _ (fun _ => rfl))
    | k + 37, _, h => omega
end Go.Proofs.YtpaibmganlaaeaaGreatDoor
namespace Go.Proofs.YtpaibmganlaaeaaGreatDoor
set_option linter.unusedVariables false
open Go.RowKit
theorem slk_nil (a : Addr) (n cap : Nat) (w : World) : (binOp .eql 23 (.slice (some a) n cap) (.slice none 0 0)).run Tryz.prog w = .ok (.bool false) w := by kernel_rfl
theorem slk_nilT (w : World) : (binOp .eql 23 (.slice none 0 0) (.slice none 0 0)).run Tryz.prog w = .ok (.bool true) w := by kernel_rfl
theorem ownk_none (w : World) : (w.alloc (.cells #[] 24)).ownsRow w.heap.size 24 1 (.slice (some ⟨w.heap.size, 0, none⟩) 0 0) 0 [] :=
  ⟨rfl, .inr ⟨w.heap.size, 0, #[], rfl, Nat.le_refl _, heap_alloc_last w _, Nat.le_refl _, Nat.zero_le _, rfl, rfl⟩⟩
theorem ownk_zero {w : World} {base : Nat} {e : TypeId} {size : Nat} {x : Value} {xs : List Value} (h : w.ownsRow base e size x 0 xs) : ∃ y c, x = .slice y 0 c := by
  obtain ⟨_, h2⟩ := h
  rcases h2 with ⟨e, _⟩ | ⟨g, cap, cur, e, _⟩
  · exact ⟨_, _, e⟩
  · exact ⟨_, _, e⟩
theorem ksL_len (n : Nat) (κ : Nat → Int) : (ksL n κ).length = n := by unfold ksL; simp
theorem ksL_src {w : World} {a : Addr} {n : Nat} {κ : Nat → Int} (h : KsAt w a n κ) : ∀ j u, (ksL n κ)[j]? = some u → w.cell? (a.add j) = some u := by
  intro j u hu
  have hj : j < n := by
    rcases Nat.lt_or_ge j n with g | g
    · exact g
    · rw [List.getElem?_eq_none (by rw [ksL_len]; exact g)] at hu; cases hu
  rw [ksL_at n κ j hj] at hu
  cases hu
  exact h j hj
theorem ksL_one (n : Nat) (κ : Nat → Int) : ∀ v ∈ ksL n κ, v.oneCell' = true := by
  intro v hv
  unfold ksL at hv
  simp at hv
  obtain ⟨i, _, rfl⟩ := hv
  rfl
theorem infoK : ∃ i, Tryz.prog.info? 24 = some i ∧ i.zero = some (.int .u8 0) ∧ i.size = 1 ∧ i.bytes = 1 := by
  obtain ⟨i, hi, hz⟩ := Option.map_eq_some_iff.1 (show (Tryz.prog.info? 24).map (fun i => (i.zero, i.size, i.bytes)) = some (some (.int .u8 0), 1, 1) by kernel_rfl)
  simp only [Prod.mk.injEq] at hz
  exact ⟨i, hi, hz.1, hz.2.1, hz.2.2⟩
end Go.Proofs.YtpaibmganlaaeaaGreatDoor
