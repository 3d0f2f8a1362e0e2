/- What the readers of times.Parse answer of what times.Print tells; no statement of the seat is proved here. -/
import Derived.Test.YtpdnlojennhmpaaGreatDoorBsD
import Derived.Test.YtpdnlojennhmpaaGreatDoorBsS
import Derived.Test.YtpdnlojennhmpaaGreatDoorPrX
namespace Go.Proofs.YtpdnlojennhmpaaGreatDoor
set_option linter.unusedVariables false
open Go.RowKit
theorem take_all (s : ByteArray) : s.data.toList.take s.size = s.data.toList := List.take_of_length_le (by simp)
theorem year_ex (n : Int) (h0 : 0 ≤ n) : ∀ K : Nat, n < Cal.ycum K → ∃ k, k < K ∧ Cal.ycum k ≤ n ∧ n < Cal.ycum (k + 1)
  | 0, h => by simp only [Cal.ycum] at h; omega
  | K + 1, h => by
    by_cases g : n < Cal.ycum K
    · obtain ⟨k, a, b, c⟩ := year_ex n h0 K g
      exact ⟨k, by omega, b, c⟩
    · exact ⟨K, by omega, by omega, h⟩
theorem month_ex (y r : Int) (h0 : 0 ≤ r) : ∀ K : Nat, r < Cal.mcum y K → ∃ k, k < K ∧ Cal.mcum y k ≤ r ∧ r < Cal.mcum y (k + 1)
  | 0, h => by simp only [Cal.mcum] at h; omega
  | K + 1, h => by
    by_cases g : r < Cal.mcum y K
    · obtain ⟨k, a, b, c⟩ := month_ex y r h0 K g
      exact ⟨k, by omega, b, c⟩
    · exact ⟨K, by omega, by omega, h⟩
theorem At_ex (n : Int) (h0 : 0 ≤ n) (h1 : n < 84006) : ∃ (k m : Nat) (d : Int), Cal.At n k m d ∧ k ≤ 229 := by
  obtain ⟨k, hk, a, b⟩ := year_ex n h0 230 (by rw [Cal.ycum_all]; exact h1)
  have ys : Cal.ycum (k + 1) = Cal.ycum k + Cal.yl (1970 + k) := rfl
  have my := Cal.mcum_year (1970 + (k : Int))
  obtain ⟨m, hm, c, d⟩ := month_ex (1970 + k) (n - Cal.ycum k) (by omega) 12 (by omega)
  have ms : Cal.mcum (1970 + k) (m + 1) = Cal.mcum (1970 + k) m + Cal.dim (1970 + k) (m + 1) := rfl
  exact ⟨k, m, n - Cal.ycum k - Cal.mcum (1970 + k) m, ⟨hm, by omega, by omega, by omega⟩, by omega⟩
theorem at_dateB {n : Int} {k m : Nat} {d : Int} (h : Cal.At n k m d) (hk : k ≤ 229) : dateB (1970 + k) (1 + m) (d + 1) = true ∧ dayN (1970 + k) (1 + m) (d + 1) = n := by
  have lo := h.lo
  have hi := h.hi
  have hm := h.hm
  have sm := h.sum
  have e1 : (1970 + (k : Int) - 1970).toNat = k := by omega
  have e2 : (1 + (m : Int) - 1).toNat = m := by omega
  refine ⟨?_, ?_⟩
  · unfold dateB
    rw [Int.add_comm 1 (m : Int)]
    simp only [decide_eq_true_eq]
    omega
  · unfold dayN
    rw [e1, e2]
    omega
theorem dcS_low (i u : Nat) (h : 1 ≤ i) (hu : u < 10 ^ i) : dcS u i = ⟨(decLow i u).toArray⟩ := by
  unfold dcS
  have := nDig_le i u h hu
  rw [show max i (Lib.nDigits u) = i by omega]
theorem dyS_dt (k m : Nat) (d : Int) (hk : k ≤ 229) (hm : m < 12) (d0 : 0 ≤ d) (d1 : d ≤ 30) : dyS k m d = dtB (1970 + k) (1 + m) (d + 1).toNat := by
  unfold dyS
  rw [dcS_low 4 (1970 + k) (by omega) (by omega), dcS_low 2 (1 + m) (by omega) (by omega), dcS_low 2 (d + 1).toNat (by omega) (by omega)]
  refine ba_eq _ _ ?_
  simp only [ba_app]
  rfl
theorem readDate_back (n : Int) (n0 : 0 ≤ n) (n1 : n < 84006) (w : World) (hT : Tab w) : Calls Tryz.prog 17 #[.string (dateS n)] w fun e w' => e = .returned (.tuple #[.int .i64 (n * 86400000000000), .bool true]) ∧ Below w.heap.size w w' := by
  obtain ⟨k, m, d, hA, hk⟩ := At_ex n n0 n1
  have db : 0 ≤ d ∧ d ≤ 30 := ⟨hA.lo, by have := hA.hi; have := Cal.dim_bd (1970 + (k : Int)) ((m : Int) + 1); omega⟩
  have hm := hA.hm
  rw [dateS_is hA, dyS_dt k m d hk hm db.1 db.2]
  refine readDate_is (1970 + k) (1 + m) (d + 1).toNat (by omega) (by omega) (by omega) n ?_ n0 n1 w hT
  have a := at_dateB hA hk
  have e1 : (((1970 + k : Nat) : Int)) = 1970 + k := by omega
  have e2 : (((1 + m : Nat) : Int)) = 1 + m := by omega
  have e3 : (((d + 1).toNat : Nat) : Int) = d + 1 := by omega
  rw [e1, e2, e3]
  unfold DV
  rw [a.1, if_pos rfl, a.2]
theorem idx_none (c : UInt8) : ∀ l : List UInt8, (∀ x ∈ l, ¬ x = c) → Lib.indexByte l c = -1
  | [], _ => rfl
  | b :: l, h => by
    have ih := idx_none c l (fun x hx => h x (List.mem_cons_of_mem _ hx))
    have hb : (b == c) = false := by simpa using h b List.mem_cons_self
    simp [Lib.indexByte, hb, ih]
theorem idx_at (c : UInt8) (r : List UInt8) : ∀ l : List UInt8, (∀ x ∈ l, ¬ x = c) → Lib.indexByte (l ++ c :: r) c = l.length
  | [], _ => by simp [Lib.indexByte]
  | b :: l, h => by
    have ih := idx_at c r l (fun x hx => h x (List.mem_cons_of_mem _ hx))
    have hb : (b == c) = false := by simpa using h b List.mem_cons_self
    simp only [List.cons_append, Lib.indexByte, hb, ih]
    rw [if_neg (by simp), if_neg (by simp)]
    simp
theorem dg_ne (n i : Nat) (c : UInt8) (h : c.toNat < 48) : ¬ Lib.dg n i = c := by
  intro g
  have := dgV n i
  rw [g] at this
  omega
theorem ck_ne (h m s : Nat) : ∀ x ∈ (ckB h m s).data.toList, ¬ x = 46 := by
  intro x hx
  have hx' : x ∈ [Lib.dg h 1, Lib.dg h 0, 58, Lib.dg m 1, Lib.dg m 0, 58, Lib.dg s 1, Lib.dg s 0] := hx
  simp only [List.mem_cons, List.not_mem_nil, or_false] at hx'
  rcases hx' with rfl | rfl | rfl | rfl | rfl | rfl | rfl | rfl
  all_goals first
    | exact dg_ne _ _ _ (by decide)
    | decide
theorem clH_ck (N : Nat) (h : N < 86400000000000) : clH N = ckB (N / 3600000000000) (N % 3600000000000 / 60000000000) (N % 60000000000 / 1000000000) := by
  unfold clH
  rw [dcS_low 2 (N / 3600000000000) (by omega) (by omega), dcS_low 2 (N % 3600000000000 / 60000000000) (by omega) (by omega), dcS_low 2 (N % 60000000000 / 1000000000) (by omega) (by omega)]
  refine ba_eq _ _ ?_
  simp only [ba_app]
  rfl
theorem readClock_back (N : Nat) (h : N < 86400000000000) (w : World) : Calls Tryz.prog 18 #[.string (clS N)] w fun e w' => e = .returned (.tuple #[.int .i64 N, .bool true]) ∧ Below w.heap.size w w' := by
  have e : ((N / 3600000000000 : Nat) : Int) * 3600000000000 + ((N % 3600000000000 / 60000000000 : Nat) : Int) * 60000000000 + ((N % 60000000000 / 1000000000 : Nat) : Int) * 1000000000 + ((N % 1000000000 : Nat) : Int) = N := by omega
  have ne := ck_ne (N / 3600000000000) (N % 3600000000000 / 60000000000) (N % 60000000000 / 1000000000)
  by_cases z : N % 1000000000 = 0
  · have ec : clS N = ckB (N / 3600000000000) (N % 3600000000000 / 60000000000) (N % 60000000000 / 1000000000) := by
      unfold clS
      rw [if_pos z, clH_ck N h]
    rw [ec]
    have := readClock_is (N / 3600000000000) (N % 3600000000000 / 60000000000) (N % 60000000000 / 1000000000) (by omega) (by omega) (by omega) (N % 1000000000) (by omega) (ckB (N / 3600000000000) (N % 3600000000000 / 60000000000) (N % 60000000000 / 1000000000)) ⟨#[]⟩ ⟨#[]⟩ false (Nat.zero_le _) (Or.inl rfl)
      (fun w => Cut_no _ 46 (idx_none 46 _ ne) w) rfl rfl (by rw [z]; rfl) w
    rwa [e] at this
  · obtain ⟨k, x, hk, ht, hx, hz⟩ := trim_low 9 (N % 1000000000)
    have q9 : N % 1000000000 % 10 ^ 9 = N % 1000000000 := Nat.mod_mod N 1000000000
    have k1 : 1 ≤ k := hz (by rw [q9]; exact z)
    have hx' : N % 1000000000 = x % 10 ^ k * 10 ^ (9 - k) := by rw [← hx, q9]
    have ef : clF N = ⟨(decLow k x).toArray⟩ := by unfold clF; rw [ht]
    have el : (clS N).data.toList = (ckB (N / 3600000000000) (N % 3600000000000 / 60000000000) (N % 60000000000 / 1000000000)).data.toList ++ 46 :: decLow k x := by
      unfold clS
      rw [if_neg z, clH_ck N h, ef, ba_app, ba_app]
      simp
    have sz : (clS N).size = 9 + k := by
      have : (clS N).size = (clS N).data.toList.length := by simp
      rw [this, el, List.length_append, List.length_cons, decLow_len]
      show 8 + (k + 1) = _
      omega
    have hi : Lib.indexByte (clS N).data.toList 46 = (8 : Nat) := by
      rw [el, idx_at 46 _ _ ne]
      rfl
    have ea : (clS N).extract 0 8 = ckB (N / 3600000000000) (N % 3600000000000 / 60000000000) (N % 60000000000 / 1000000000) := by
      refine ba_eq _ _ ?_
      rw [ext_list, el]
      rfl
    have eb : (clS N).extract (8 + 1) (clS N).size = ⟨(decLow k x).toArray⟩ := by
      refine ba_eq _ _ ?_
      rw [ext_list, take_all, el]
      rfl
    have C : ∀ w, Calls Tryz.prog 7 #[.string (clS N), .string ⟨#[46]⟩] w fun e w' => e = .returned (.tuple #[.string (ckB (N / 3600000000000) (N % 3600000000000 / 60000000000) (N % 60000000000 / 1000000000)), .string ⟨(decLow k x).toArray⟩, .bool true]) ∧ Below w.heap.size w w' := fun w => by
      have := Cut_at (clS N) 46 8 (by rw [sz]; unfold maxLen; omega) hi (by omega) w
      rwa [ea, eb] at this
    have ss : (⟨(decLow k x).toArray⟩ : ByteArray).size = k := by show (decLow k x).toArray.size = k; simp [decLow_len]
    have cn : cutN digT ⟨(decLow k x).toArray⟩ = k := by
      show runT digT (decLow k x).toArray.toList = k
      have := run_low [] k x
      simpa [runT] using this
    have := readClock_is (N / 3600000000000) (N % 3600000000000 / 60000000000) (N % 60000000000 / 1000000000) (by omega) (by omega) (by omega) (N % 1000000000) (by omega) (clS N) ⟨(decLow k x).toArray⟩ _ true (by rw [ss]; omega) (Or.inr ⟨rfl, isEmpty_noT (by rw [ss]; omega)⟩) C rfl
      (by
        rw [cn, ss]
        refine ba_eq _ [] ?_
        rw [ext_list, List.drop_eq_nil_of_le]
        simp [decLow_len])
      (by
        unfold rfV
        have r := rf_low x [] k hk
        rw [List.append_nil] at r
        show (match rfF 1000000000 (decLow k x).toArray.toList.reverse 0 with | none => _ | some n => _) = _
        rw [List.toList_toArray, r, ← hx']
        rfl) w
    rwa [e] at this
theorem spT_pt (N : Nat) : spT N 7 = ptB (spP 7 N 0) := by
  refine ba_eq _ _ ?_
  have := spP_text N 7 0
  rw [← this]
  rfl
theorem readSpan_back (n : Int) (h0 : -9223372036854775808 ≤ n) (h1 : n < 9223372036854775808) (w : World) (u : UT7 w) : Calls Tryz.prog 16 #[.string (tmS n)] w fun e w' => e = .returned (if n = -9223372036854775808 then .tuple #[.int .i64 0, .bool false] else .tuple #[.int .i64 n, .bool true]) ∧ Below w.heap.size w w' := by
  have ts := tmS_size n h0 h1
  by_cases z : n = 0
  · subst z
    have t : tmS 0 = ptB [(3, 0)] := by
      unfold ptB ptT
      rw [Lib.decDigits_one (by omega)]
      rfl
    have p : preB 45 (tmS 0) = false := pre_no 45 48 [83] (by decide)
    have a : aftB 45 (tmS 0) = ptB [(3, 0)] := by
      unfold aftB
      rw [p, ← t]
      rfl
    rw [if_neg (by omega)]
    have := readSpan_pt false (tmS 0) [(3, 0)] w (by simp) ⟨by omega, by omega, Or.inl rfl, by omega, by omega, trivial⟩ (by decide) (by omega) p a u
    exact this
  · have okP := spP_ok 7 0 n.natAbs 0 rfl (Nat.le_refl _) (Or.inl ⟨rfl, by omega⟩)
    have sum := spP_sum 6 0 n.natAbs rfl
    have nn : spP 7 n.natAbs 0 ≠ [] := by
      intro g
      rw [show 6 + 1 = 7 from rfl, g] at sum
      simp only [ptS] at sum
      omega
    have hd : ∃ (d : UInt8) (l : List UInt8), ptT (spP 7 n.natAbs 0) = d :: l ∧ 48 ≤ d.toNat ∧ d.toNat ≤ 57 := by
      rcases ptT_head (spP 7 n.natAbs 0) with g | g
      · exact absurd g nn
      · exact g
    by_cases c : n < 0
    · have t : tmS n = ⟨#[45]⟩ ++ ptB (spP 7 n.natAbs 0) := by unfold tmS; rw [if_pos c, spT_pt]
      have tl : (tmS n).data.toList = 45 :: ptT (spP 7 n.natAbs 0) := by rw [t, ba_app]; rfl
      have p : preB 45 (tmS n) = true := by
        unfold preB
        rw [ByteArray.toList_eq, ext_list, tl]
        have : (tmS n).size = (tmS n).data.toList.length := by simp
        rw [this, tl]
        simp
      have a : aftB 45 (tmS n) = ptB (spP 7 n.natAbs 0) := by
        unfold aftB
        rw [p, if_pos rfl]
        refine ba_eq _ _ ?_
        rw [ext_list, take_all, tl]
        rfl
      have := readSpan_pt true (tmS n) (spP 7 n.natAbs 0) w nn okP (by rw [sum]; omega) (by omega) p a u
      rw [sum] at this
      have e : spV true n.natAbs = if n = -9223372036854775808 then .tuple #[.int .i64 0, .bool false] else .tuple #[.int .i64 n, .bool true] := by
        unfold spV
        by_cases g : n = -9223372036854775808
        · rw [if_pos g, if_neg (by omega)]
        · rw [if_neg g, if_pos (by omega), if_pos rfl, show -(n.natAbs : Int) = n by omega]
      rwa [e] at this
    · have t : tmS n = ptB (spP 7 n.natAbs 0) := by unfold tmS spS; rw [if_neg c, if_neg (by omega), spT_pt]
      have p : preB 45 (tmS n) = false := by
        obtain ⟨d, l, e, d0, d1⟩ := hd
        rw [t]
        unfold ptB
        rw [e]
        exact pre_no 45 d l (by intro g; subst g; simp at d0)
      have a : aftB 45 (tmS n) = ptB (spP 7 n.natAbs 0) := by
        unfold aftB
        rw [p, ← t]
        rfl
      have := readSpan_pt false (tmS n) (spP 7 n.natAbs 0) w nn okP (by rw [sum]; omega) (by omega) p a u
      rw [sum] at this
      have e : spV false n.natAbs = if n = -9223372036854775808 then .tuple #[.int .i64 0, .bool false] else .tuple #[.int .i64 n, .bool true] := by
        unfold spV
        rw [if_neg (by omega : ¬ n = -9223372036854775808), if_pos (by omega), if_neg (by simp), show ((n.natAbs : Nat) : Int) = n by omega]
      rwa [e] at this
/-- A day's text and a clock's, one behind the other. -/
theorem readBoth_back (n : Int) (N : Nat) (n0 : 0 ≤ n) (n1 : n < 84006) (h : N < 86400000000000) (w : World) (hT : Tab w) : Calls Tryz.prog 19 #[.string (dateS n ++ ⟨#[45]⟩ ++ clS N)] w fun e w' => e = .returned (.tuple #[.int .i64 (n * 86400000000000 + N), .bool true]) ∧ Below w.heap.size w w' := by
  have s10 : (dateS n).size = 10 := by
    obtain ⟨k, m, d, hA, hk⟩ := At_ex n n0 n1
    have db : 0 ≤ d ∧ d ≤ 30 := ⟨hA.lo, by have := hA.hi; have := Cal.dim_bd (1970 + (k : Int)) ((m : Int) + 1); omega⟩
    rw [dateS_is hA, dyS_dt k m d hk hA.hm db.1 db.2]
    rfl
  have cs := clS_size N h
  have l10 : (dateS n).data.toList.length = 10 := by rw [← s10]; simp
  have el : (dateS n ++ ⟨#[45]⟩ ++ clS N).data.toList = (dateS n).data.toList ++ 45 :: (clS N).data.toList := by
    rw [ba_app, ba_app]; simp
  have sz : (dateS n ++ ⟨#[45]⟩ ++ clS N).size = 11 + (clS N).size := by
    rw [ByteArray.size_append, ByteArray.size_append, s10]; rfl
  have ea : (dateS n ++ ⟨#[45]⟩ ++ clS N).extract 0 10 = dateS n := by
    rw [ba_eq (dateS n) _ rfl]
    refine ba_eq _ _ ?_
    rw [← ba_eq (dateS n) _ rfl, ext_list, el, List.take_append_of_le_length (by omega), List.take_of_length_le (by omega)]
    rfl
  have eb : (dateS n ++ ⟨#[45]⟩ ++ clS N).extract 11 (dateS n ++ ⟨#[45]⟩ ++ clS N).size = clS N := by
    rw [ba_eq (clS N) _ rfl]
    refine ba_eq _ _ ?_
    rw [← ba_eq (clS N) _ rfl, ext_list, take_all, el, List.drop_append, List.drop_eq_nil_of_le (by omega), l10]
    rfl
  have g : 10 < (dateS n ++ ⟨#[45]⟩ ++ clS N).size := by omega
  have h45 : (dateS n ++ ⟨#[45]⟩ ++ clS N)[10].toNat = 45 := by
    have q : (dateS n ++ ⟨#[45]⟩ ++ clS N).data.toList[10]? = some 45 := by
      rw [el, List.getElem?_append_right (by omega), l10]
      rfl
    have q2 : (dateS n ++ ⟨#[45]⟩ ++ clS N).data.toList[10]? = some (dateS n ++ ⟨#[45]⟩ ++ clS N)[10] := by
      rw [List.getElem?_eq_getElem (by rw [Array.length_toList]; exact g)]
      rfl
    rw [q] at q2
    rw [← Option.some.inj q2]
    rfl
  exact readBoth_is _ _ _ (n * 86400000000000) N (by omega) g h45 ea eb (by omega) (by omega) w (fun w1 hb => readDate_back n n0 n1 w1 (tab_nextB hT hb)) (fun w1 => readClock_back N h w1)
end Go.Proofs.YtpdnlojennhmpaaGreatDoor
