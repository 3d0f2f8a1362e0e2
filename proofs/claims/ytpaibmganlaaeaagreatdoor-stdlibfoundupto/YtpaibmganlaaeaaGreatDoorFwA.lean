/- That conversions to kinds that a kind is converted to give a value of the kind, or a fault of their own; no statement of the seat is proved here. -/
import Derived.Test.YtpaibmganlaaeaaGreatDoorFz07
import Derived.Test.YtpaibmganlaaeaaGreatDoorFz04
import Derived.Laws.FloatArith
import Derived.Laws.BitsAllLaws
import Derived.Test.YtpaibmganlaaeaaGreatDoorFz08
import Derived.Test.YtpaibmganlaaeaaGreatDoorFz17
import Derived.Test.YtpaibmganlaaeaaGreatDoorFz14
namespace Go.Proofs.YtpaibmganlaaeaaGreatDoor
set_option linter.unusedVariables false
open Go.RowKit
def StOk (v : Value) : Prop := ∃ k' b' s' f, v = .tuple #[V k' b' s', .int .i64 f] ∧ (0 ≤ b' ∧ b' < 18446744073709551616) ∧ (0 ≤ k' ∧ k' < 256) ∧ s'.size ≤ maxLen ∧ (f = 0 → may3 k' b' s' = true)
theorem st_fault (f : Int) (h : f ≠ 0) : StOk (.tuple #[V 0 0 E0, .int .i64 f]) := ⟨0, 0, E0, f, rfl, by omega, by omega, Nat.zero_le _, fun e => absurd e h⟩
theorem st_of (k b : Int) (hk : 0 ≤ k ∧ k < 256) (h : 0 ≤ b ∧ b < 18446744073709551616) (m : may3 k b E0 = true) : StOk (.tuple #[V k b E0, .int .i64 0]) := ⟨k, b, E0, 0, rfl, h, hk, Nat.zero_le _, fun _ => m⟩
theorem st_fit (k n : Int) (hk : 0 ≤ k ∧ k < 256) (c : fitOk k n = true) : StOk (.tuple #[V k (n % 18446744073709551616) E0, .int .i64 0]) := by
  refine st_of k _ hk (by omega) ?_
  unfold fitOk at c
  simp only [Bool.and_eq_true] at c
  exact c.1
theorem st_lreal (n : Nat) (h : n < 18446744073709551616) : StOk (.tuple #[V 18 (lrealB n) E0, .int .i64 0]) := by
  unfold lrealB
  cases c : fnan n
  · refine st_of 18 _ (by omega) (by simp; omega) ?_
    simp [may3, mayW, c]
  · refine st_of 18 _ (by omega) (by simp) ?_
    simp [may3, mayW]
theorem st_fl (op : Int) (x y : Nat) : StOk (.tuple #[V 18 (flB op x y) E0, .int .i64 0]) := by
  cases h : floatBits (flOp op) .f64 x y with
  | some r =>
    rw [flB_s h]
    have w := floatBits_wf h
    simp [Lit.wf] at w
    exact st_lreal r (by omega)
  | none =>
    rw [flB_n h]
    exact st_of 18 _ (by omega) (by omega) (by simp [may3, mayW])
/-- How wide a kind of bits is. -/
theorem wide (k b : Int) (h1 : b < 18446744073709551616) (hk : k = 1 ∨ 10 ≤ k ∧ k ≤ 13) (m : mayW k b = true) : ∃ n : Nat, n ≤ 64 ∧ b < ((2 ^ n : Nat) : Int) ∧ (∀ c : Int, 0 ≤ c → c < ((2 ^ n : Nat) : Int) → mayW k c = true) ∧ ∀ c : Int, mayW k c = true → c < 18446744073709551616 → c < ((2 ^ n : Nat) : Int) := by
  rcases (by omega : k = 1 ∨ k = 10 ∨ k = 11 ∨ k = 12 ∨ k = 13) with rfl | rfl | rfl | rfl | rfl
  · exact ⟨1, by omega, by simp [mayW] at m ⊢; omega, fun c c0 c1 => by simp [mayW] at *; omega, fun c h _ => by simp [mayW] at *; omega⟩
  · exact ⟨8, by omega, by simp [mayW] at m ⊢; omega, fun c c0 c1 => by simp [mayW] at *; omega, fun c h _ => by simp [mayW] at *; omega⟩
  · exact ⟨16, by omega, by simp [mayW] at m ⊢; omega, fun c c0 c1 => by simp [mayW] at *; omega, fun c h _ => by simp [mayW] at *; omega⟩
  · exact ⟨32, by omega, by simp [mayW] at m ⊢; omega, fun c c0 c1 => by simp [mayW] at *; omega, fun c h _ => by simp [mayW] at *; omega⟩
  · exact ⟨64, by omega, by simp; omega, fun c c0 c1 => by simp [mayW], fun c _ h => by simp; omega⟩
theorem mayE (k b : Int) (h : ¬ k = 19) : may3 k b E0 = mayW k b := by
  simp [may3, h]
theorem st_bit (op k b c : Int) (hk : k = 1 ∨ 10 ≤ k ∧ k ≤ 13) (h0 : 0 ≤ b) (h1 : b < 18446744073709551616) (g0 : 0 ≤ c) (g1 : c < 18446744073709551616) (m : mayW k b = true) (m' : mayW k c = true) : StOk (.tuple #[V k (bitB op b c) E0, .int .i64 0]) := by
  obtain ⟨n, n64, hb, hall, hin⟩ := wide k b h1 hk m
  have hc := hin c m' g1
  have hp : (2 : Nat) ^ n ≤ 2 ^ 64 := Nat.pow_le_pow_right (by omega) n64
  have e64 : (2 : Nat) ^ 64 = 18446744073709551616 := by decide
  have key : ∀ r : Nat, r < 2 ^ n → StOk (.tuple #[V k (r : Int) E0, .int .i64 0]) := by
    intro r hr
    refine st_of k _ (by omega) (by omega) ?_
    rw [mayE k _ (by omega)]
    exact hall _ (by omega) (by omega)
  have b1 : b.toNat < 2 ^ n := by omega
  have c1 : c.toNat < 2 ^ n := by omega
  unfold bitB
  split
  · rw [u64_and b c h0 h1 g0 g1]
    exact key _ (Nat.and_lt_two_pow _ c1)
  · split
    · rw [u64_or b c h0 h1 g0 g1]
      exact key _ (Nat.or_lt_two_pow b1 c1)
    · rw [u64_xor b c h0 h1 g0 g1]
      exact key _ (Nat.xor_lt_two_pow b1 c1)
theorem may_part {k b : Int} {s : ByteArray} (m : may3 k b s = true) (h : ¬ k = 19) : mayW k b = true := by
  simp [may3, h] at m
  exact m.2
theorem reck_ok (op k b k' c : Int) (s t : ByteArray) (h0 : 0 ≤ b) (h1 : b < 18446744073709551616) (hk : 0 ≤ k ∧ k < 256) (g0 : 0 ≤ c) (g1 : c < 18446744073709551616) : StOk (reckR op k b k' c s t) := by
  unfold reckR
  split
  · exact st_fault 8 (by omega)
  · rename_i hm
    have m1 : may3 k b s = true := by cases q : may3 k b s <;> simp_all
    have m2 : may3 k' c t = true := by cases q : may3 k' c t <;> simp_all
    split
    · cases hB op k b c s t
      · exact st_of 1 0 (by omega) (by omega) (by simp [may3, mayW])
      · exact st_of 1 1 (by omega) (by omega) (by simp [may3, mayW])
    · split
      · exact st_fl op _ _
      · split
        · rename_i q
          have hq : k = 1 ∨ 10 ≤ k ∧ k ≤ 13 := by simpa [hbK] using q.2.1
          obtain rfl := q.1
          exact st_bit op k b c hq h0 h1 g0 g1 (may_part m1 (by omega)) (may_part m2 (by omega))
        · split
          · exact st_fault 8 (by omega)
          · rename_i z
            have o := outc_ne z
            unfold nR
            split
            · exact st_fault 2 (by omega)
            · split
              · rename_i f
                exact st_fit _ _ (by omega) f
              · exact st_fault 1 (by omega)
theorem turn_ok (op k b : Int) (s : ByteArray) (h0 : 0 ≤ b) (h1 : b < 18446744073709551616) (hk : 0 ≤ k ∧ k < 256) : StOk (turnR op k b s) := by
  unfold turnR
  split
  · exact st_fault 8 (by omega)
  · rename_i hm
    have m1 : may3 k b s = true := by cases q : may3 k b s <;> simp_all
    split
    · split
      · rename_i f
        exact st_fit _ _ hk f
      · exact st_fault 1 (by omega)
    · split
      · refine st_lreal _ ?_
        unfold flipN
        have : b.toNat ^^^ 9223372036854775808 < 2 ^ 64 := Nat.xor_lt_two_pow (by omega) (by decide)
        omega
      · split
        · rename_i q
          have w := may_part m1 (by omega)
          rcases (by omega : k = 1 ∨ k = 10 ∨ k = 11 ∨ k = 12 ∨ k = 13) with rfl | rfl | rfl | rfl | rfl
          all_goals
            simp [mayW] at w
            refine st_of _ _ (by omega) (by simp [notB]; omega) ?_
            simp [may3, mayW, notB]
            try omega
        · exact st_fault 8 (by omega)
end Go.Proofs.YtpaibmganlaaeaaGreatDoor
namespace Go.Proofs.YtpaibmganlaaeaaGreatDoor
set_option linter.unusedVariables false
open Go.RowKit
/-- A value of the kind, or a fault of its own and no value. -/
structure GdR (k rk rb : Int) (rs : ByteArray) (fa : Int) : Prop where
  b0 : 0 ≤ rb
  b1 : rb < 18446744073709551616
  k0 : 0 ≤ rk
  k1 : rk < 256
  s1 : rs.size ≤ maxLen
  ok : (fa ≠ 0 ∧ fa ≠ 8 ∧ rk = 0 ∧ rb = 0 ∧ rs = E0) ∨ (fa = 0 ∧ rk = k ∧ may3 rk rb rs = true)
def GdV (k : Int) (v : Value) : Prop := ∃ rk rb rs fa, v = .tuple #[V rk rb rs, .int .i64 fa] ∧ GdR k rk rb rs fa
theorem gr_fault (k f : Int) (h : f ≠ 0) (g : f ≠ 8) : GdR k 0 0 E0 f := ⟨by omega, by omega, by omega, by omega, hE0, .inl ⟨h, g, rfl, rfl, rfl⟩⟩
theorem gr_val (k b : Int) (s : ByteArray) (hk : 0 ≤ k ∧ k < 256) (h : 0 ≤ b ∧ b < 18446744073709551616) (hs : s.size ≤ maxLen) (m : may3 k b s = true) : GdR k k b s 0 := ⟨h.1, h.2, hk.1, hk.2, hs, .inr ⟨rfl, rfl, m⟩⟩
theorem gd_fault (k f : Int) (h : f ≠ 0) (g : f ≠ 8) : GdV k (.tuple #[V 0 0 E0, .int .i64 f]) := ⟨0, 0, E0, f, rfl, gr_fault k f h g⟩
theorem gd_val (k b : Int) (s : ByteArray) (hk : 0 ≤ k ∧ k < 256) (h : 0 ≤ b ∧ b < 18446744073709551616) (hs : s.size ≤ maxLen) (m : may3 k b s = true) : GdV k (.tuple #[V k b s, .int .i64 0]) := ⟨k, b, s, 0, rfl, gr_val k b s hk h hs m⟩
theorem gd_of_st {k : Int} {b : Int} {s : ByteArray} {f : Int} (h : StOk (.tuple #[V k b s, .int .i64 f])) (e : f = 0) : GdV k (.tuple #[V k b s, .int .i64 f]) := by
  obtain ⟨k', b', s', f', e', hb, hk, hs, hm⟩ := h
  simp at e'
  obtain ⟨⟨rfl, rfl, rfl⟩, rfl⟩ := e'
  subst e
  exact gd_val _ _ _ hk hb hs (hm rfl)
theorem may_rg {k b : Int} {s : ByteArray} (m : may3 k b s = true) : 1 ≤ k ∧ k ≤ 19 := by
  constructor
  · apply Classical.byContradiction
    intro q
    simp only [may3, mayW] at m
    simp [show ¬ k = 19 by omega, show ¬ k = 1 by omega, show ¬ k = 2 by omega, show ¬ k = 3 by omega, show ¬ k = 4 by omega, show ¬ k = 5 by omega, show ¬ k = 6 by omega, show ¬ k = 7 by omega, show ¬ k = 8 by omega, show ¬ k = 9 by omega, show ¬ k = 10 by omega, show ¬ k = 11 by omega, show ¬ k = 12 by omega, show ¬ k = 13 by omega, show ¬ k = 14 by omega, show ¬ k = 15 by omega, show ¬ k = 16 by omega, show ¬ k = 17 by omega, show ¬ k = 18 by omega] at m
  · apply Classical.byContradiction
    intro q
    simp only [may3, mayW] at m
    simp [show ¬ k = 19 by omega, show ¬ k = 1 by omega, show ¬ k = 2 by omega, show ¬ k = 3 by omega, show ¬ k = 4 by omega, show ¬ k = 5 by omega, show ¬ k = 6 by omega, show ¬ k = 7 by omega, show ¬ k = 8 by omega, show ¬ k = 9 by omega, show ¬ k = 10 by omega, show ¬ k = 11 by omega, show ¬ k = 12 by omega, show ¬ k = 13 by omega, show ¬ k = 14 by omega, show ¬ k = 15 by omega, show ¬ k = 16 by omega, show ¬ k = 17 by omega, show ¬ k = 18 by omega] at m
theorem res_out (op k k' : Int) (h1 : ¬ (k = k' ∧ 9 ≤ op ∧ op ≤ 14)) (h2 : ¬ (k = k' ∧ k = 18 ∧ 1 ≤ op ∧ op ≤ 4)) (h3 : ¬ (k = k' ∧ hbK k = true ∧ 6 ≤ op ∧ op ≤ 8)) : resK op k k' = outc op k k' := by
  have h3' : ¬ (k = k' ∧ (k = 1 ∨ 10 ≤ k ∧ k ≤ 13) ∧ 6 ≤ op ∧ op ≤ 8) := fun ⟨a, b, c⟩ => h3 ⟨a, decide_eq_true b, c⟩
  unfold resK outc
  repeat' split
  all_goals first | rfl | omega
theorem reck_gd (op k b k' c : Int) (s t : ByteArray) (h0 : 0 ≤ b) (h1 : b < 18446744073709551616) (hk : 0 ≤ k ∧ k < 256) (g0 : 0 ≤ c) (g1 : c < 18446744073709551616) (m : may3 k b s = true) (m' : may3 k' c t = true) (hR : ¬ resK op k k' = 0) :
    GdV (resK op k k') (reckR op k b k' c s t) := by
  have ok := reck_ok op k b k' c s t h0 h1 hk g0 g1
  have kr : 1 ≤ k ∧ k ≤ 19 := may_rg m
  by_cases a1 : k = k' ∧ 9 ≤ op ∧ op ≤ 14
  · have e : reckR op k b k' c s t = .tuple #[V 1 (tb (hB op k b c s t)) E0, .int .i64 0] := by unfold reckR; rw [if_neg (by simp [m, m']), if_pos a1]
    have r : resK op k k' = 1 := by unfold resK; rw [if_pos ⟨a1.2, a1.1, kr⟩]
    rw [e] at ok ⊢; rw [r]
    exact gd_of_st ok rfl
  by_cases a2 : k = k' ∧ k = 18 ∧ 1 ≤ op ∧ op ≤ 4
  · have e : reckR op k b k' c s t = .tuple #[V 18 (flB op b.toNat c.toNat) E0, .int .i64 0] := by unfold reckR; rw [if_neg (by simp [m, m']), if_neg a1, if_pos a2]
    have r : resK op k k' = 18 := by unfold resK; rw [if_neg (by omega), if_neg (by omega), if_pos (by omega)]; omega
    rw [e] at ok ⊢; rw [r]
    exact gd_of_st ok rfl
  by_cases a3 : k = k' ∧ hbK k = true ∧ 6 ≤ op ∧ op ≤ 8
  · have e : reckR op k b k' c s t = .tuple #[V k (bitB op b c) E0, .int .i64 0] := by unfold reckR; rw [if_neg (by simp [m, m']), if_neg a1, if_neg a2, if_pos a3]
    have q : k = 1 ∨ 10 ≤ k ∧ k ≤ 13 := of_decide_eq_true a3.2.1
    have r : resK op k k' = k := by unfold resK; rw [if_neg (by omega), if_neg (by omega), if_neg (by omega), if_pos ⟨by omega, by omega, q⟩]
    rw [e] at ok ⊢; rw [r]
    exact gd_of_st ok rfl
  have r := res_out op k k' a1 a2 a3
  rw [r] at hR ⊢
  have e : reckR op k b k' c s t = nR (outc op k k') op (num k b) (num k' c) := by unfold reckR; rw [if_neg (by simp [m, m']), if_neg a1, if_neg a2, if_neg a3, if_neg hR]
  rw [e] at ok ⊢
  unfold nR at ok ⊢
  split
  · exact gd_fault _ _ (by decide) (by decide)
  · rename_i q
    rw [if_neg q] at ok
    split
    · rename_i q2
      rw [if_pos q2] at ok
      exact gd_of_st ok rfl
    · exact gd_fault _ _ (by decide) (by decide)
theorem turn_gd (k b : Int) (s : ByteArray) (h0 : 0 ≤ b) (h1 : b < 18446744073709551616) (hk : 0 ≤ k ∧ k < 256) (m : may3 k b s = true) (hR : ¬ tnK k = 0) : GdV (tnK k) (turnR 16 k b s) := by
  have ok := turn_ok 16 k b s h0 h1 hk
  have q : k = 1 ∨ 10 ≤ k ∧ k ≤ 13 := by unfold tnK at hR; by_cases q : k = 1 ∨ 10 ≤ k ∧ k ≤ 13; exact q; rw [if_neg q] at hR; exact absurd rfl hR
  have r : tnK k = k := by unfold tnK; rw [if_pos q]
  have e : turnR 16 k b s = .tuple #[V k (notB k b) E0, .int .i64 0] := by unfold turnR; rw [if_neg (by simp [m]), if_neg (by omega), if_neg (by omega), if_pos ⟨rfl, q⟩]
  rw [e] at ok ⊢; rw [r]
  exact gd_of_st ok rfl
theorem neg_gd (k b : Int) (s : ByteArray) (h0 : 0 ≤ b) (h1 : b < 18446744073709551616) (hk : 0 ≤ k ∧ k < 256) (m : may3 k b s = true) (q : 2 ≤ k ∧ k ≤ 5 ∨ k = 14) : GdV k (turnR 15 k b s) := by
  have ok := turn_ok 15 k b s h0 h1 hk
  unfold turnR at ok ⊢
  rw [if_neg (by simp [m]), if_pos ⟨rfl, q⟩] at ok ⊢
  split
  · rename_i q2
    rw [if_pos q2] at ok
    exact gd_of_st ok rfl
  · exact gd_fault _ _ (by decide) (by decide)
end Go.Proofs.YtpaibmganlaaeaaGreatDoor
namespace Go.Proofs.YtpaibmganlaaeaaGreatDoor
set_option linter.unusedVariables false
open Go.RowKit
/-- Kinds that a kind is converted to. -/
def cvTk (tk kv : Int) : Bool :=
  if tk = kv then true else if kv = 18 then decide (1 ≤ tk ∧ tk ≤ 13) else if kv = 19 then decide (1 ≤ tk ∧ tk ≤ 9)
  else if 14 ≤ kv ∧ kv ≤ 17 then decide (tk = 5 ∨ tk = 15 ∧ kv = 17 ∨ tk = 16 ∧ kv = 17)
  else decide (1 ≤ tk ∧ tk ≤ 13 ∨ 14 ≤ tk ∧ tk ≤ 17 ∧ kv = 5 ∨ tk = 18 ∨ tk = 19 ∧ kv ≤ 9)
theorem cvTk_all : ∀ tk k : Fin 20, 1 ≤ tk.val → 1 ≤ k.val → (fltA (cvX (tk.val : Int) (smK (k.val : Int)) (smB (k.val : Int)) E0) != 8) = cvTk (tk.val : Int) (k.val : Int) := by decide +kernel
theorem cvU_Tk (tk k : Int) (ht : 1 ≤ tk ∧ tk ≤ 19) (hk : 1 ≤ k ∧ k ≤ 19) : cvU tk k = cvTk tk k := by
  have := cvTk_all ⟨tk.toNat, by omega⟩ ⟨k.toNat, by omega⟩ (by show 1 ≤ tk.toNat; omega) (by show 1 ≤ k.toNat; omega)
  simp only [show ((tk.toNat : Nat) : Int) = tk by omega, show ((k.toNat : Nat) : Int) = k by omega] at this
  exact this
theorem sz_gd (k n : Int) (hk : 1 ≤ k ∧ k ≤ 17) : GdV k (szV k n) := by
  unfold szV
  split
  · rename_i c
    exact gd_of_st (st_fit k n (by omega) c) rfl
  · exact gd_fault _ _ (by decide) (by decide)
theorem tx_gd (k : Int) (o : Option Int) (hk : 1 ≤ k ∧ k ≤ 17) : GdV k (txV k o) := by
  unfold txV
  cases o with
  | none => exact gd_fault _ _ (by decide) (by decide)
  | some n => exact sz_gd k n hk
theorem bool_gd (p : Bool) : GdV 1 (.tuple #[V 1 (tb p) E0, .int .i64 0]) := by cases p <;> exact gd_val _ _ _ (by decide) (by decide) hE0 (by simp [may3, mayW, tb])
theorem text_gd (t : ByteArray) (h : t.size ≤ 254) : GdV 19 (.tuple #[V 19 0 t, .int .i64 0]) := gd_val _ _ _ (by decide) (by decide) (by unfold maxLen; omega) (by unfold may3; simp [h])
theorem cv_gd (k kv b : Int) (s : ByteArray) (h0 : 0 ≤ b) (h1 : b < 18446744073709551616) (hk : 1 ≤ k ∧ k ≤ 19) (hs : s.size ≤ maxLen) (m : may3 kv b s = true) (hc : cvTk k kv = true) : GdV k (cvX k kv b s) := by
  have kr := may_kv m
  unfold cvX
  rw [if_pos ⟨m, hk⟩]
  unfold cvTk at hc
  split
  · rename_i e; subst e; exact gd_val _ _ _ (by omega) ⟨h0, h1⟩ hs m
  rename_i ne
  rw [if_neg (fun e => ne e.symm)] at hc
  split
  · rename_i e
    rw [if_pos e] at hc
    have := of_decide_eq_true hc
    unfold frX
    split
    · rename_i e1; subst e1
      split
      · exact gd_fault _ _ (by decide) (by decide)
      · exact bool_gd _
    · rw [if_pos (by omega)]
      split
      · exact sz_gd k _ (by omega)
      · exact gd_fault _ _ (by decide) (by decide)
  rename_i n18
  rw [if_neg n18] at hc
  split
  · rename_i e
    rw [if_pos e] at hc
    have := of_decide_eq_true hc
    unfold ftX
    split
    · rename_i e1; subst e1
      unfold ftB
      repeat' split
      · exact bool_gd _
      · exact bool_gd _
      · exact gd_fault _ _ (by decide) (by decide)
    · rw [if_pos (by omega)]
      exact tx_gd k _ (by omega)
  rename_i n19
  rw [if_neg n19] at hc
  split
  · rename_i e
    rw [if_pos e] at hc
    have q := of_decide_eq_true hc
    unfold fmX
    split
    · rename_i e1; subst e1; exact sz_gd 5 _ (by omega)
    split
    · rename_i e1; obtain ⟨rfl, rfl⟩ := e1
      have mm : mayW 17 b = true := may_part m (by decide)
      rw [mw17] at mm
      have mm := of_decide_eq_true mm
      refine gd_val _ _ _ (by decide) (by omega) hE0 ?_
      rw [mayE 15 _ (by decide), mw15t _ (by omega)]
      simp
      try omega
    · rename_i n15
      rw [if_pos (by omega)]
      obtain ⟨rfl, rfl⟩ : k = 16 ∧ kv = 17 := by omega
      refine gd_val _ _ _ (by decide) (by omega) hE0 ?_
      rw [mayE 16 _ (by decide), mw16]
      simp; omega
  · rename_i e
    rw [if_neg e] at hc
    have q := of_decide_eq_true hc
    unfold fpX
    split
    · rename_i e1; subst e1; exact bool_gd _
    split
    · exact sz_gd k _ (by omega)
    split
    · rename_i e1; subst e1
      exact gd_of_st (st_lreal _ (flt_bd _)) rfl
    · rw [if_pos (by omega)]
      obtain ⟨rfl, hv⟩ : k = 19 ∧ kv ≤ 9 := by omega
      refine text_gd _ ?_
      split
      · unfold tfS; split <;> decide
      · have nb := num_wide kv b h0 h1
        have := numS_size (num kv b) nb.1 nb.2
        omega
end Go.Proofs.YtpaibmganlaaeaaGreatDoor
