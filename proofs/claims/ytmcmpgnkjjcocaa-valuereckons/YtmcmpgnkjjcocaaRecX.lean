/- What the document's Reckon answers, for every operation and two values, in the same one function; no statement of the seat is proved here. -/
import Derived.Test.YtmcmpgnkjjcocaaRecX0
import Derived.Test.YtmcmpgnkjjcocaaRecX1
import Derived.Test.YtmcmpgnkjjcocaaRecR
import Derived.Test.YtmcmpgnkjjcocaaRecS
import Derived.Test.YtmcmpgnkjjcocaaRecU
namespace Go.Proofs.Ytmcmpgnkjjcocaa
set_option linter.unusedVariables false
open Go.RowKit
set_option maxHeartbeats 400000 in
theorem Unsigned_of (r : Int) (w : World) : Calls Try.prog 22 #[.int .u8 r] w fun e w' => e = .returned (.bool (decide (6 ≤ r ∧ r ≤ 9))) ∧ w' = w := by
  by_cases c : 6 ≤ r
  · by_cases d : r ≤ 9
    · have h : decide (6 ≤ r ∧ r ≤ 9) = true := by simp [c, d]
      rw [h]; clear h
      go_enter Try.func22, Try.ntmps22
      go_wp2
      go_ret
      exact ⟨rfl, rfl⟩
    · have h : decide (6 ≤ r ∧ r ≤ 9) = false := by simp [d]
      rw [h]; clear h
      go_enter Try.func22, Try.ntmps22
      go_wp2
      go_ret
      exact ⟨rfl, rfl⟩
  · have h : decide (6 ≤ r ∧ r ≤ 9) = false := by simp [c]
    rw [h]; clear h
    go_enter Try.func22, Try.ntmps22
    go_wp2
    go_ret
    exact ⟨rfl, rfl⟩
theorem may_kind {k b : Int} {s : ByteArray} (h : may3 k b s = true) (hk : 0 ≤ k ∧ k < 256) : 1 ≤ k ∧ k ≤ 19 := by
  by_cases e : k = 19
  · omega
  have := (may_w h e).1
  rcases kinds k hk with rfl | rfl | rfl | rfl | rfl | rfl | rfl | rfl | rfl | rfl | rfl | rfl | rfl | rfl | rfl | rfl | rfl | rfl | rfl | rfl | h
  all_goals first | omega | (simp [mayW] at this; done) | skip
  unfold mayW at this
  simp [show ¬ k = 1 by omega, show ¬ k = 2 by omega, show ¬ k = 3 by omega, show ¬ k = 4 by omega, show ¬ k = 5 by omega, show ¬ k = 6 by omega, show ¬ k = 7 by omega, show ¬ k = 8 by omega, show ¬ k = 9 by omega, show ¬ k = 10 by omega, show ¬ k = 11 by omega, show ¬ k = 12 by omega, show ¬ k = 13 by omega, show ¬ k = 14 by omega, show ¬ k = 15 by omega, show ¬ k = 16 by omega, show ¬ k = 17 by omega, show ¬ k = 18 by omega] at this
theorem num_wrap {k b : Int} {s : ByteArray} (m : may3 k b s = true) (h0 : 0 ≤ b) (hk : 2 ≤ k ∧ k ≤ 5 ∨ 14 ≤ k ∧ k ≤ 17) : num k b = wrap64 b := by
  by_cases d : 2 ≤ k ∧ k ≤ 5 ∨ k = 14
  · exact num_s d
  · rw [num_u d]
    have hm := (may_w m (by omega)).1
    have hb : b < 9223372036854775808 := by
      by_cases c : b < 9223372036854775808
      · exact c
      · rw [mw_hi k b (by omega) (by omega)] at hm; cases hm
    unfold wrap64; omega
theorem resK_c (op k : Int) (o : 9 ≤ op ∧ op ≤ 14) (hk : 1 ≤ k ∧ k ≤ 19) : resK op k k = 1 := by
  unfold resK; rw [if_pos ⟨o, rfl, hk⟩]
theorem resK_f (op : Int) : resK op 18 18 = if 1 ≤ op ∧ op ≤ 4 then 18 else if 9 ≤ op ∧ op ≤ 14 then 1 else 0 := by
  unfold resK
  (repeat' split) <;> omega
theorem resK_b (op k : Int) (o : 6 ≤ op ∧ op ≤ 8) (hk : hbK k = true) : resK op k k = k := by
  simp [hbK] at hk
  unfold resK
  (repeat' split) <;> omega
theorem resK_o (op k : Int) (o : ¬ (9 ≤ op ∧ op ≤ 14)) (e : ¬ k = 18) (q : ¬ (hbK k = true ∧ 6 ≤ op ∧ op ≤ 8)) : resK op k k = outc op k k := by
  simp [hbK] at q
  unfold resK outc
  (repeat' split) <;> omega
theorem resK_n (op k k' : Int) (d : ¬ k = k') : resK op k k' = outc op k k' := by
  rw [resK_d op k k' d]
  unfold outc
  (repeat' split) <;> omega
section
variable (op k b k' c : Int) (s t : ByteArray) (w : World)
theorem RecR_num (h0 : 0 ≤ b) (h1 : b < 18446744073709551616) (hk : 0 ≤ k ∧ k < 256) (hs : s.size ≤ maxLen) (g0 : 0 ≤ c) (g1 : c < 18446744073709551616) (gk : 0 ≤ k' ∧ k' < 256) (gs : t.size ≤ maxLen) (m : may3 k b s = true) (n : may3 k' c t = true) (z : ¬ outc op k k' = 0)
    (RK : Hid (∀ w, Calls Try.prog 18 #[.int .i64 op, .int .u8 k, .int .u8 k'] w fun e w' => e = .returned (.int .u8 (outc op k k')) ∧ w' = w)) :
    Calls Try.prog 5 #[.int .i64 op, V k b s, V k' c t] w fun e w' => e = .returned (nR (outc op k k') op (num k b) (num k' c)) ∧ Below w.heap.size w w' := by
  obtain ⟨p1, p2, p3⟩ := outc_ne z
  have rz : (outc op k k' == 0) = false := by simpa using z
  have r18 : (outc op k k' == 18) = false := by simp; omega
  have hkk : 0 ≤ outc op k k' ∧ outc op k k' < 256 := by omega
  generalize outc op k k' = kk at *
  have U := Unsigned_of kk
  by_cases u : 6 ≤ kk ∧ kk ≤ 9
  · obtain ⟨q1, q2⟩ : k = kk ∧ k' = kk := by omega
    subst q1 q2
    have UN : Hid (∀ w, Calls Try.prog 22 #[.int .u8 k'] w fun e w' => e = .returned (.bool true) ∧ w' = w) := fun w => by have := U w; rwa [decide_eq_true u] at this
    rw [num_u (by omega), num_u (by omega)]
    have SG := fun w => unsignedS_of op b c w p1 h0 h1 g0 g1
    unfold usR at SG
    unfold nR
    by_cases zz : (op = 4 ∨ op = 5) ∧ c = 0
    · rw [if_pos zz]
      simp only [if_pos zz] at SG
      exact RecR_un op k' b k' c s t w h0 h1 hk hs g0 g1 gk gs m n p1.2 rz r18 (by decide) UN SG RK
    rw [if_neg zz]
    simp only [if_neg zz] at SG
    cases i : inU (opI op b c)
    · rw [fit_uover k' _ u i, if_neg (by simp)]
      rw [i] at SG
      simp only [Bool.false_eq_true, if_false] at SG
      exact RecR_un op k' b k' c s t w h0 h1 hk hs g0 g1 gk gs m n p1.2 rz r18 (by decide) UN SG RK
    · rw [fit_u k' _ u i]
      rw [i] at SG
      simp only [if_true] at SG
      have iv : 0 ≤ opI op b c ∧ opI op b c < 18446744073709551616 := by simpa [inU] using i
      rw [show opI op b c % 18446744073709551616 = opI op b c by omega]
      have MD := fun w => made_of k' (opI op b c) 1 w iv.1 iv.2 hkk
      cases f : mayW k' (opI op b c)
      · rw [if_neg (by simp)]
        refine RecR_uy op k' b k' c s t w h0 h1 hk hs g0 g1 gk gs m n p1.2 rz r18 UN SG (fun w => ?_) RK
        have := MD w; rw [f] at this; simpa [RV] using this
      · rw [if_pos rfl]
        refine RecR_uy op k' b k' c s t w h0 h1 hk hs g0 g1 gk gs m n p1.2 rz r18 UN SG (fun w => ?_) RK
        have := MD w; rw [f] at this; simpa [RV] using this
  · have sk : sK kk := by unfold sK; omega
    have UN : Hid (∀ w, Calls Try.prog 22 #[.int .u8 kk] w fun e w' => e = .returned (.bool false) ∧ w' = w) := fun w => by have := U w; rwa [decide_eq_false u] at this
    rw [num_wrap m h0 (by omega), num_wrap n g0 (by omega)]
    have SG := fun w => signedS_of op (wrap64 b) (wrap64 c) w p1 (wrap64_bd b) (wrap64_bd c)
    unfold sgR at SG
    unfold nR
    by_cases zz : (op = 4 ∨ op = 5) ∧ wrap64 c = 0
    · rw [if_pos zz]
      simp only [if_pos zz] at SG
      exact RecR_sn op k b k' c s t w h0 h1 hk hs g0 g1 gk gs m n p1.2 rz r18 (by decide) UN SG RK
    rw [if_neg zz]
    simp only [if_neg zz] at SG
    cases i : in64 (opI op (wrap64 b) (wrap64 c))
    · rw [fit_over kk _ sk i, if_neg (by simp)]
      rw [i] at SG
      simp only [Bool.false_eq_true, if_false] at SG
      exact RecR_sn op k b k' c s t w h0 h1 hk hs g0 g1 gk gs m n p1.2 rz r18 (by decide) UN SG RK
    · rw [fit_in kk _ sk i]
      rw [i] at SG
      simp only [if_true] at SG
      have e : IntKind.u64.wrap (opI op (wrap64 b) (wrap64 c)) = opI op (wrap64 b) (wrap64 c) % 18446744073709551616 := IntKind.wrap_u64 _
      have MD := fun w => made_of kk (opI op (wrap64 b) (wrap64 c) % 18446744073709551616) 1 w (by omega) (by omega) hkk
      cases f : mayW kk (opI op (wrap64 b) (wrap64 c) % 18446744073709551616)
      · rw [if_neg (by simp)]
        refine RecR_sy op k b k' c s t w h0 h1 hk hs g0 g1 gk gs m n p1.2 rz r18 UN SG (fun w => ?_) RK
        rw [e]; have := MD w; rw [f] at this; simpa [RV] using this
      · rw [if_pos rfl]
        refine RecR_sy op k b k' c s t w h0 h1 hk hs g0 g1 gk gs m n p1.2 rz r18 UN SG (fun w => ?_) RK
        rw [e]; have := MD w; rw [f] at this; simpa [RV] using this
theorem ReckonR_of (h0 : 0 ≤ b) (h1 : b < 18446744073709551616) (hk : 0 ≤ k ∧ k < 256) (hs : s.size ≤ maxLen) (g0 : 0 ≤ c) (g1 : c < 18446744073709551616) (gk : 0 ≤ k' ∧ k' < 256) (gs : t.size ≤ maxLen) :
    Calls Try.prog 5 #[.int .i64 op, V k b s, V k' c t] w fun e w' => e = .returned (reckR op k b k' c s t) ∧ Below w.heap.size w w' := by
  have RK := fun w => Result_of op k k' w
  unfold reckR
  cases m : may3 k b s
  · rw [if_pos (.inl rfl)]; exact RecR_x1 op k b k' c s t w h0 h1 hk hs m RK
  cases n : may3 k' c t
  · rw [if_pos (.inr rfl)]; exact RecR_x2 op k b k' c s t w h0 h1 hk hs g0 g1 gk gs m n RK
  rw [if_neg (by simp)]
  by_cases d : k = k'
  · subst d
    by_cases o : 9 ≤ op ∧ op ≤ 14
    · rw [if_pos ⟨rfl, o⟩]
      rw [resK_c op k o (may_kind m hk)] at RK
      exact RecR_c op k b k c s t w h0 h1 hk hs g0 g1 gk gs m n o.1 (by decide) (fun w => compareR_of b c s t w op k o) RK
    rw [if_neg (fun h => o h.2)]
    by_cases e : k = 18
    · subst e
      rw [resK_f] at RK
      by_cases p : 1 ≤ op ∧ op ≤ 4
      · rw [if_pos ⟨rfl, rfl, p⟩]
        simp only [if_pos p] at RK
        exact RecR_f op 18 b 18 c s t w h0 h1 hk hs g0 g1 gk gs m n (by omega) (fun w => rr_yes op b.toNat c.toNat w p) RK
      · rw [if_neg (fun h => p h.2.2), if_neg (by rintro ⟨_, h, _⟩; exact absurd h (by decide)), if_pos (outc_18 op)]
        simp only [if_neg p, if_neg o] at RK
        exact RecR_x3 op 18 b 18 c s t w h0 h1 hk hs g0 g1 gk gs m n RK
    rw [if_neg (fun h => e h.2.1)]
    by_cases q : hbK k = true ∧ 6 ≤ op ∧ op ≤ 8
    · rw [if_pos ⟨rfl, q⟩]
      rw [resK_b op k q.2 q.1] at RK
      have kz : (k == 0) = false := by have := may_kind m hk; simp; omega
      have : op = 6 ∨ op = 7 ∨ op = 8 := by omega
      rcases this with rfl | rfl | rfl
      · exact RecR_b6 k b k c s t w h0 h1 hk hs g0 g1 gk gs m n kz RK
      · exact RecR_b7 k b k c s t w h0 h1 hk hs g0 g1 gk gs m n kz RK
      · exact RecR_b8 k b k c s t w h0 h1 hk hs g0 g1 gk gs m n kz RK
    rw [if_neg (fun h => q h.2)]
    rw [resK_o op k o e q] at RK
    by_cases z : outc op k k = 0
    · rw [if_pos z]
      rw [z] at RK
      exact RecR_x3 op k b k c s t w h0 h1 hk hs g0 g1 gk gs m n RK
    · rw [if_neg z]
      exact RecR_num op k b k c s t w h0 h1 hk hs g0 g1 gk gs m n z RK
  · rw [if_neg (fun h => d h.1), if_neg (fun h => d h.1), if_neg (fun h => d h.1)]
    rw [resK_n op k k' d] at RK
    by_cases z : outc op k k' = 0
    · rw [if_pos z]
      rw [z] at RK
      exact RecR_x3 op k b k' c s t w h0 h1 hk hs g0 g1 gk gs m n RK
    · rw [if_neg z]
      exact RecR_num op k b k' c s t w h0 h1 hk hs g0 g1 gk gs m n z RK
end
end Go.Proofs.Ytmcmpgnkjjcocaa
