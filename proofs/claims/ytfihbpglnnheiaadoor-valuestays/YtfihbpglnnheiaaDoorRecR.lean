/- What value.Reckon answers, for every operation and two values, in one function; no statement of the seat is proved here. -/
import Derived.Test.YtfihbpglnnheiaaDoorRecB
import Derived.Test.YtfihbpglnnheiaaDoorRecT1
import Derived.Test.YtfihbpglnnheiaaDoorRecT2
import Derived.Test.YtfihbpglnnheiaaDoorRecT3
import Derived.Test.YtfihbpglnnheiaaDoorRecT4
import Derived.Test.YtfihbpglnnheiaaDoorRecT5
namespace Go.Proofs.YtfihbpglnnheiaaDoor
set_option linter.unusedVariables false
open Go.RowKit
/-- Of which kinds the bits are reckoned one by one. -/
def hbK (k : Int) : Bool := decide (k = 1 ∨ 10 ≤ k ∧ k ≤ 13)
set_option maxHeartbeats 400000 in
theorem hasBits_of (k : Int) (w : World) : Calls Tryd.prog 18 #[.int .u8 k] w fun e w' => e = .returned (.bool (hbK k)) ∧ w' = w := by
  by_cases c : k = 1
  · subst c
    go_enter Tryd.func18, Tryd.ntmps18
    go_wp2
    go_ret
    exact ⟨rfl, rfl⟩
  have c1 : (k == 1) = false := by simpa using c
  by_cases d : 10 ≤ k
  · by_cases e : k ≤ 13
    · have h : hbK k = true := by simp [hbK, d, e]
      rw [h]
      clear h
      go_enter Tryd.func18, Tryd.ntmps18
      go_wp2
      go_ret
      exact ⟨rfl, rfl⟩
    · have h : hbK k = false := by simp [hbK, d, e, c]
      rw [h]
      clear h
      go_enter Tryd.func18, Tryd.ntmps18
      go_wp2
      go_ret
      exact ⟨rfl, rfl⟩
  · have h : hbK k = false := by simp [hbK, d, c]
    rw [h]
    clear h
    go_enter Tryd.func18, Tryd.ntmps18
    go_wp2
    go_ret
    exact ⟨rfl, rfl⟩
/-- What numbers come to, as a value of a kind. -/
def nR (kk op x y : Int) : Value :=
  if (op = 4 ∨ op = 5) ∧ y = 0 then .tuple #[V 0 0 E0, .int .i64 2] else if fitOk kk (opI op x y) then .tuple #[V kk (opI op x y % 18446744073709551616) E0, .int .i64 0] else .tuple #[V 0 0 E0, .int .i64 1]
/-- What an operation on two values comes to. -/
def reckR (op k b k' c : Int) (s t : ByteArray) : Value :=
  if may3 k b s = false ∨ may3 k' c t = false then .tuple #[V 0 0 E0, .int .i64 8]
  else if k = k' ∧ 9 ≤ op ∧ op ≤ 14 then .tuple #[V 1 (tb (hB op k b c s t)) E0, .int .i64 0]
  else if k = k' ∧ k = 18 ∧ 1 ≤ op ∧ op ≤ 4 then .tuple #[V 18 (flB op b.toNat c.toNat) E0, .int .i64 0]
  else if k = k' ∧ hbK k = true ∧ 6 ≤ op ∧ op ≤ 8 then .tuple #[V k (bitB op b c) E0, .int .i64 0]
  else if outc op k k' = 0 then .tuple #[V 0 0 E0, .int .i64 8] else nR (outc op k k') op (num k b) (num k' c)
theorem outc_ne {op k k' : Int} (h : ¬ outc op k k' = 0) : (1 ≤ op ∧ op ≤ 5) ∧ (2 ≤ k ∧ k ≤ 9 ∨ 14 ≤ k ∧ k ≤ 17) ∧ (2 ≤ outc op k k' ∧ outc op k k' ≤ 9 ∧ k = outc op k k' ∧ k' = k ∨ 14 ≤ outc op k k' ∧ outc op k k' ≤ 17 ∧ (14 ≤ k ∧ k ≤ 17) ∧ (14 ≤ k' ∧ k' ≤ 17 ∨ k' = 5)) := by
  revert h
  unfold outc
  (repeat' split) <;> intro h <;> omega
theorem outc_18 (op : Int) : outc op 18 18 = 0 := by
  unfold outc
  (repeat' split) <;> omega
section
variable (op k b k' c : Int) (s t : ByteArray) (w : World)
theorem fit_call (kk n : Int) (w : World) (hk : 0 ≤ kk ∧ kk < 256) (g : -18446744073709551616 < n ∧ n < 18446744073709551616) :
    Calls Tryd.prog 10 #[.int .u8 kk, NB n, .int .i64 1] w fun e w' => e = .returned (if fitOk kk n then .tuple #[V kk (n % 18446744073709551616) E0, .int .i64 0] else .tuple #[V 0 0 E0, .int .i64 1]) ∧ Below w.heap.size w w' := by
  refine (fitted_of kk n 1 w hk g).mono fun e w' ⟨he, hb⟩ => ⟨?_, hb⟩
  rw [he]
  cases f : fitOk kk n <;> simp [RV]
/-- Where numbers are reckoned: out of what reckonNumbers and fitted answer. -/
theorem num_join {P : Value → Prop} (kk op x y : Int) (hk : 0 ≤ kk ∧ kk < 256) (ho : 1 ≤ op ∧ op ≤ 5) (hx : -18446744073709551616 < x ∧ x < 18446744073709551616) (hy : -18446744073709551616 < y ∧ y < 18446744073709551616)
    (hn : ∀ f : Int, (f != 0) = true → Hid (∀ w, Calls Tryd.prog 21 #[.int .i64 op, NB x, NB y] w fun e w' => e = .returned (.tuple #[N0, .int .i64 f]) ∧ Below w.heap.size w w') → P (.tuple #[V 0 0 E0, .int .i64 f]))
    (hy' : ∀ n K B f : Int, Hid (∀ w, Calls Tryd.prog 21 #[.int .i64 op, NB x, NB y] w fun e w' => e = .returned (.tuple #[NB n, .int .i64 0]) ∧ Below w.heap.size w w') → Hid (∀ w, Calls Tryd.prog 10 #[.int .u8 kk, NB n, .int .i64 1] w fun e w' => e = .returned (.tuple #[V K B E0, .int .i64 f]) ∧ Below w.heap.size w w') → P (.tuple #[V K B E0, .int .i64 f])) :
    P (nR kk op x y) := by
  have R := fun w => reckonNumbers_of op x y w ho hx hy
  unfold nR
  by_cases z : (op = 4 ∨ op = 5) ∧ y = 0
  · rw [if_pos z]
    exact hn 2 (by decide) (fun w => by have := R w; unfold rnR at this; rwa [if_pos z] at this)
  rw [if_neg z]
  cases r : room (opI op x y)
  · rw [fit_out kk _ r, if_neg (by simp)]
    exact hn 1 (by decide) (fun w => by have := R w; unfold rnR at this; rwa [if_neg z, r, if_neg (by simp)] at this)
  · have R2 : ∀ w, Calls Tryd.prog 21 #[.int .i64 op, NB x, NB y] w fun e w' => e = .returned (.tuple #[NB (opI op x y), .int .i64 0]) ∧ Below w.heap.size w w' := fun w => by have := R w; unfold rnR at this; rwa [if_neg z, r, if_pos rfl] at this
    have F := fun w => fit_call kk (opI op x y) w hk (by simpa [room] using r)
    cases f : fitOk kk (opI op x y)
    · rw [if_neg (by simp)]
      exact hy' _ _ _ _ R2 (fun w => by have := F w; rwa [f, if_neg (by simp)] at this)
    · rw [if_pos rfl]
      exact hy' _ _ _ _ R2 (fun w => by have := F w; rwa [f, if_pos rfl] at this)
theorem num_wide (k b : Int) (h0 : 0 ≤ b) (h1 : b < 18446744073709551616) : -18446744073709551616 < num k b ∧ num k b < 18446744073709551616 := by
  have := num_bd k b h0 h1; omega
theorem Reckon_of (h0 : 0 ≤ b) (h1 : b < 18446744073709551616) (hk : 0 ≤ k ∧ k < 256) (hs : s.size ≤ maxLen) (g0 : 0 ≤ c) (g1 : c < 18446744073709551616) (gk : 0 ≤ k' ∧ k' < 256) (gs : t.size ≤ maxLen) :
    Calls Tryd.prog 6 #[.int .i64 op, V k b s, V k' c t] w fun e w' => e = .returned (reckR op k b k' c s t) ∧ Below w.heap.size w w' := by
  unfold reckR
  cases m : may3 k b s
  · rw [if_pos (.inl rfl)]; exact Reckon_x1 op k b k' c s t w h0 h1 hk hs m
  cases n : may3 k' c t
  · rw [if_pos (.inr rfl)]; exact Reckon_x2 op k b k' c s t w h0 h1 hk hs g0 g1 gk gs m n
  rw [if_neg (by simp)]
  by_cases d : k = k'
  · subst d
    by_cases o : 9 ≤ op ∧ op ≤ 14
    · rw [if_pos ⟨rfl, o⟩]; exact Reckon_c op k b c s t w o h0 h1 hk hs g0 g1 gs m n
    rw [if_neg (fun h => o h.2)]
    by_cases e : k = 18
    · subst e
      by_cases p : 1 ≤ op ∧ op ≤ 4
      · rw [if_pos ⟨rfl, rfl, p⟩]
        exact Reckon_f op b 18 c s t w h0 h1 hs g0 g1 gs m n (by omega) (fun w => rf_yes op b.toNat c.toNat w p)
      · rw [if_neg (fun h => p h.2.2), if_neg (by rintro ⟨_, h, _⟩; exact absurd h (by decide)), if_pos (outc_18 op)]
        exact Reckon_f op b 0 c s t w h0 h1 hs g0 g1 gs m n (by omega) (fun w => rf_no op b.toNat c.toNat w (by omega) (by omega) (by omega) (by omega))
    rw [if_neg (fun h => e h.2.1)]
    have e18 : (k == 18) = false := by simpa using e
    by_cases q : hbK k = true ∧ 6 ≤ op ∧ op ≤ 8
    · rw [if_pos ⟨rfl, q⟩]
      have hq : k = 1 ∨ 10 ≤ k ∧ k ≤ 13 := by simpa [hbK] using q.1
      rcases hq with rfl | ⟨q1, q2⟩
      · exact Reckon_b1 op b c s t w h0 h1 hk hs g0 g1 gs m n q.2
      · exact Reckon_b2 op k b c s t w h0 h1 hk hs g0 g1 gs m n q.2 q1 q2
    rw [if_neg (fun h => q h.2)]
    have O := fun w => outcome_of op k k w
    by_cases z : outc op k k = 0
    · rw [if_pos z]
      rw [z] at O
      by_cases o6 : op < 6
      · exact Reckon_oa1 op k b c s t w h0 h1 hk hs g0 g1 gs m n o6 e18 (fun w => hasBits_of k w) O
      by_cases o14 : 14 < op
      · exact Reckon_oa2 op k b c s t w h0 h1 hk hs g0 g1 gs m n o14 e18 (fun w => hasBits_of k w) O
      · have hf : hbK k = false := by
          cases x : hbK k
          · rfl
          · exact absurd ⟨x, by omega, by omega⟩ q
        exact Reckon_oa3 op k b c s t w h0 h1 hk hs g0 g1 gs m n (by omega) e18 (fun w => by have := hasBits_of k w; rwa [hf] at this) O
    · rw [if_neg z]
      obtain ⟨p1, p2, p3⟩ := outc_ne z
      have hf : hbK k = false := by simp [hbK]; omega
      have H0 : Hid (∀ w, Calls Tryd.prog 18 #[.int .u8 k] w fun e w' => e = .returned (.bool false) ∧ w' = w) := fun w => by have := hasBits_of k w; rwa [hf] at this
      refine num_join (P := fun v => Calls Tryd.prog 6 #[.int .i64 op, V k b s, V k c t] w fun e w' => e = .returned v ∧ Below w.heap.size w w') (outc op k k) op (num k b) (num k c) (by omega) p1 (num_wide k b h0 h1) (num_wide k c g0 g1) ?_ ?_
      · intro f hf R
        exact Reckon_an op k b c s t w h0 h1 hk hs g0 g1 gs m n p1.2 e18 H0 (by simpa using z) O hf R
      · intro n' K B f R F
        exact Reckon_ay op k b c s t w h0 h1 hk hs g0 g1 gs m n p1.2 e18 H0 (by simpa using z) O R F
  · rw [if_neg (fun h => d h.1), if_neg (fun h => d h.1), if_neg (fun h => d h.1)]
    have d' : (k == k') = false := by simpa using d
    have O := fun w => outcome_of op k k' w
    by_cases z : outc op k k' = 0
    · rw [if_pos z]
      rw [z] at O
      exact Reckon_od op k b k' c s t w h0 h1 hk hs g0 g1 gk gs m n d' O
    · rw [if_neg z]
      obtain ⟨p1, p2, p3⟩ := outc_ne z
      refine num_join (P := fun v => Calls Tryd.prog 6 #[.int .i64 op, V k b s, V k' c t] w fun e w' => e = .returned v ∧ Below w.heap.size w w') (outc op k k') op (num k b) (num k' c) (by omega) p1 (num_wide k b h0 h1) (num_wide k' c g0 g1) ?_ ?_
      · intro f hf R
        exact Reckon_nn op k b k' c s t w h0 h1 hk hs g0 g1 gk gs m n d' (by simpa using z) O hf R
      · intro n' K B f R F
        exact Reckon_ny op k b k' c s t w h0 h1 hk hs g0 g1 gk gs m n d' (by simpa using z) O R F
end
end Go.Proofs.YtfihbpglnnheiaaDoor
