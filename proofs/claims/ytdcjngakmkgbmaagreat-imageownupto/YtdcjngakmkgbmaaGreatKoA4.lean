/- What value.Fits answers, for every type and value; no statement of the seat is proved here. -/
import Derived.Test.YtdcjngakmkgbmaaGreatKoA3
import Derived.BigQuiet
import Derived.Test.YtdcjngakmkgbmaaGreatKoA1
namespace Go.Proofs.YtdcjngakmkgbmaaGreat
set_option linter.unusedVariables false
open Go.RowKit
theorem sgr_t (h m b : Int) (h0 : 0 ≤ b) (h1 : b < 18446744073709551616) (g0 : 0 < h) (g1 : h ≤ 9223372036854775808) (e : m + 1 = h) (c : -h ≤ wrap64 b) : decide (wrap64 b ≤ m) = sg h b := by
  rw [Bool.eq_iff_iff]; simp only [decide_eq_true_eq, sg]; unfold wrap64 at *; omega
theorem sgr_f (h b : Int) (h0 : 0 ≤ b) (h1 : b < 18446744073709551616) (g0 : 0 < h) (g1 : h ≤ 9223372036854775808) (c : wrap64 b < -h) : false = sg h b := by
  symm; simp only [decide_eq_false_iff_not, sg]; unfold wrap64 at *; omega
theorem ttr_t (h b : Int) (h0 : 0 ≤ b) (h1 : b < 18446744073709551616) (g1 : h ≤ 9223372036854775808) (c : 0 ≤ wrap64 b) : decide (wrap64 b < h) = decide (b < h) := by
  rw [Bool.eq_iff_iff]; simp only [decide_eq_true_eq]; unfold wrap64 at *; omega
theorem ttr_f (h b : Int) (h0 : 0 ≤ b) (h1 : b < 18446744073709551616) (g1 : h ≤ 9223372036854775808) (c : wrap64 b < 0) : false = decide (b < h) := by
  symm; simp only [decide_eq_false_iff_not]; unfold wrap64 at *; omega
theorem t15a (b : Int) (h0 : 0 ≤ b) (h1 : b < 18446744073709551616) (c : 0 ≤ wrap64 b) (d : wrap64 b < 7258118400000000000) : (wrap64 b % 86400000000000 == 0) = mayW 15 b := by
  have e : wrap64 b = b := by unfold wrap64 at *; omega
  rw [e] at d ⊢
  exact (mw15t b d).symm
theorem t15b (b : Int) (h0 : 0 ≤ b) (h1 : b < 18446744073709551616) (c : 0 ≤ wrap64 b) (d : 7258118400000000000 ≤ wrap64 b) : false = mayW 15 b :=
  (mw15f b (by unfold wrap64 at *; omega)).symm
theorem t15c (b : Int) (h0 : 0 ≤ b) (h1 : b < 18446744073709551616) (c : wrap64 b < 0) : false = mayW 15 b :=
  (mw15f b (by unfold wrap64 at *; omega)).symm
set_option maxHeartbeats 400000 in
theorem may_of (k b : Int) (w : World) (h0 : 0 ≤ b) (h1 : b < 18446744073709551616) (hk : 0 ≤ k ∧ k < 256) :
    Calls Tryz.prog 116 #[.int .u8 k, .int .u64 b] w fun e w' => e = .returned (.bool (mayW k b)) ∧ w' = w := by
  rcases kinds k hk with rfl | rfl | rfl | rfl | rfl | rfl | rfl | rfl | rfl | rfl | rfl | rfl | rfl | rfl | rfl | rfl | rfl | rfl | rfl | rfl | hk2

  · go_enter Tryz.func116, Tryz.ntmps116
    go_wp2
    all_goals
      go_ret
      refine ⟨ret_bool ?_, rfl⟩
      rw [mw1]; simp; omega
  · go_enter Tryz.func116, Tryz.ntmps116
    go_wp2
    all_goals
      go_ret
      refine ⟨ret_bool ?_, rfl⟩
      rw [mw2]
      first | exact sgr_t 128 127 b h0 h1 (by omega) (by omega) (by omega) ‹_› | exact sgr_f 128 b h0 h1 (by omega) (by omega) ‹_›
  · go_enter Tryz.func116, Tryz.ntmps116
    go_wp2
    all_goals
      go_ret
      refine ⟨ret_bool ?_, rfl⟩
      rw [mw3]
      first | exact sgr_t 32768 32767 b h0 h1 (by omega) (by omega) (by omega) ‹_› | exact sgr_f 32768 b h0 h1 (by omega) (by omega) ‹_›
  · go_enter Tryz.func116, Tryz.ntmps116
    go_wp2
    all_goals
      go_ret
      refine ⟨ret_bool ?_, rfl⟩
      rw [mw4]
      first | exact sgr_t 2147483648 2147483647 b h0 h1 (by omega) (by omega) (by omega) ‹_› | exact sgr_f 2147483648 b h0 h1 (by omega) (by omega) ‹_›
  · go_enter Tryz.func116, Tryz.ntmps116
    go_wp2
    all_goals
      go_ret
      refine ⟨ret_bool ?_, rfl⟩
      rw [mw5, sg_all]
  · go_enter Tryz.func116, Tryz.ntmps116
    go_wp2
    all_goals
      go_ret
      refine ⟨ret_bool ?_, rfl⟩
      rw [mw6]
  · go_enter Tryz.func116, Tryz.ntmps116
    go_wp2
    all_goals
      go_ret
      refine ⟨ret_bool ?_, rfl⟩
      rw [mw7]
  · go_enter Tryz.func116, Tryz.ntmps116
    go_wp2
    all_goals
      go_ret
      refine ⟨ret_bool ?_, rfl⟩
      rw [mw8]
  · go_enter Tryz.func116, Tryz.ntmps116
    go_wp2
    all_goals
      go_ret
      refine ⟨ret_bool ?_, rfl⟩
      rfl
  · go_enter Tryz.func116, Tryz.ntmps116
    go_wp2
    all_goals
      go_ret
      refine ⟨ret_bool ?_, rfl⟩
      rw [mw10]
  · go_enter Tryz.func116, Tryz.ntmps116
    go_wp2
    all_goals
      go_ret
      refine ⟨ret_bool ?_, rfl⟩
      rw [mw11]
  · go_enter Tryz.func116, Tryz.ntmps116
    go_wp2
    all_goals
      go_ret
      refine ⟨ret_bool ?_, rfl⟩
      rw [mw12]
  · go_enter Tryz.func116, Tryz.ntmps116
    go_wp2
    all_goals
      go_ret
      refine ⟨ret_bool ?_, rfl⟩
      rfl
  · go_enter Tryz.func116, Tryz.ntmps116
    go_wp2
    all_goals
      go_ret
      refine ⟨ret_bool ?_, rfl⟩
      rfl
  · go_enter Tryz.func116, Tryz.ntmps116
    go_wp2
    all_goals
      go_ret
      refine ⟨ret_bool ?_, rfl⟩
      first | exact t15a b h0 h1 ‹_› ‹_› | exact t15b b h0 h1 ‹_› ‹_› | exact t15c b h0 h1 ‹_›
  · go_enter Tryz.func116, Tryz.ntmps116
    go_wp2
    all_goals
      go_ret
      refine ⟨ret_bool ?_, rfl⟩
      rw [mw16]; first | exact ttr_t 86400000000000 b h0 h1 (by omega) ‹_› | exact ttr_f 86400000000000 b h0 h1 (by omega) ‹_›
  · go_enter Tryz.func116, Tryz.ntmps116
    go_wp2
    all_goals
      go_ret
      refine ⟨ret_bool ?_, rfl⟩
      rw [mw17]; first | exact ttr_t 7258118400000000000 b h0 h1 (by omega) ‹_› | exact ttr_f 7258118400000000000 b h0 h1 (by omega) ‹_›
  · go_enter Tryz.func116, Tryz.ntmps116
    go_wp2
    all_goals
      go_ret
      refine ⟨ret_bool ?_, rfl⟩
      rw [mw18]; first | rw [fnan_hi b h0 h1 ‹_›] | (rw [fnan_lo b h0 h1 ‹_›]; simp; done) | (simp [*]; done)
  · go_enter Tryz.func116, Tryz.ntmps116
    go_wp2
    all_goals
      go_ret
      refine ⟨ret_bool ?_, rfl⟩
      rfl
  · go_enter Tryz.func116, Tryz.ntmps116
    go_wp2
    all_goals
      go_ret
      refine ⟨ret_bool ?_, rfl⟩
      rfl
  · go_enter Tryz.func116, Tryz.ntmps116
    go_wp2
    all_goals
      go_ret
      refine ⟨ret_bool ?_, rfl⟩
      rw [mwx k b hk2]
end Go.Proofs.YtdcjngakmkgbmaaGreat
namespace Go.Proofs.YtdcjngakmkgbmaaGreat
set_option linter.unusedVariables false
open Go.RowKit
/-- May a value be? -/
def may3 (k b : Int) (s : ByteArray) : Bool :=
  if k = 19 then decide (b = 0 ∧ s.size ≤ 254) else decide (s.toList = []) && mayW k b
abbrev V (k b : Int) (s : ByteArray) : Value := .agg #[.int .u8 k, .int .u64 b, .string s]
theorem m3s (b : Int) (s : ByteArray) (h : b = 0) : decide ((s.size : Int) ≤ 254) = may3 19 b s := by
  subst h; rw [Bool.eq_iff_iff]; simp [may3]; omega
theorem m3n (b : Int) (s : ByteArray) (h : ¬ b = 0) : false = may3 19 b s := by simp [may3, h]
theorem m3e (k b : Int) (s : ByteArray) (c : ¬ k = 19) (h : s.toList = []) : mayW k b = may3 k b s := by simp [may3, h, c]
theorem m3f (k b : Int) (s : ByteArray) (c : ¬ k = 19) (h : ¬ s.toList = []) : false = may3 k b s := by simp [may3, h, c]
set_option maxHeartbeats 400000 in
theorem May_of (k b : Int) (s : ByteArray) (w : World) (h0 : 0 ≤ b) (h1 : b < 18446744073709551616) (hk : 0 ≤ k ∧ k < 256) (hs : s.size ≤ maxLen) :
    Calls Tryz.prog 123 #[V k b s] w fun e w' => e = .returned (.bool (may3 k b s)) ∧ Below w.heap.size w w' := by
  unfold maxLen at hs
  by_cases c : k = 19
  · subst c
    go_enter Tryz.func123, Tryz.ntmps123
    go_wp2
    all_goals
      go_ret
      refine ⟨ret_bool ?_, (Below.refl _ _).alloc (Nat.le_refl _) _⟩
      first | exact m3s b s ‹_› | exact m3n b s ‹_›
  · go_enter Tryz.func123, Tryz.ntmps123
    go_wp2_with (go_at_call 136; refine (mayBits_of _ _ _ h0 h1 hk).mono ?_; rintro e w' ⟨rfl, rfl⟩)
    all_goals
      go_ret
      refine ⟨ret_bool ?_, (Below.refl _ _).alloc (Nat.le_refl _) _⟩
      first | exact m3e k b s c ‹_› | exact m3f k b s c ‹_›
set_option maxHeartbeats 400000 in
theorem MayR_of (k b : Int) (s : ByteArray) (w : World) (h0 : 0 ≤ b) (h1 : b < 18446744073709551616) (hk : 0 ≤ k ∧ k < 256) (hs : s.size ≤ maxLen) :
    Calls Tryz.prog 86 #[V k b s] w fun e w' => e = .returned (.bool (may3 k b s)) ∧ Below w.heap.size w w' := by
  unfold maxLen at hs
  by_cases c : k = 19
  · subst c
    go_enter Tryz.func86, Tryz.ntmps86
    go_wp2
    all_goals
      go_ret
      refine ⟨ret_bool ?_, (Below.refl _ _).alloc (Nat.le_refl _) _⟩
      first | exact m3s b s ‹_› | exact m3n b s ‹_›
  · go_enter Tryz.func86, Tryz.ntmps86
    go_wp2_with (go_at_call 116; refine (may_of _ _ _ h0 h1 hk).mono ?_; rintro e w' ⟨rfl, rfl⟩)
    all_goals
      go_ret
      refine ⟨ret_bool ?_, (Below.refl _ _).alloc (Nat.le_refl _) _⟩
      first | exact m3e k b s c ‹_› | exact m3f k b s c ‹_›
end Go.Proofs.YtdcjngakmkgbmaaGreat
namespace Go.Proofs.YtdcjngakmkgbmaaGreat
set_option linter.unusedVariables false
open Go.RowKit
/-- A whole number as the program holds it: is it below 0, and its size. -/
abbrev NB (n : Int) : Value := .agg #[.bool (decide (n < 0)), .int .u64 n.natAbs]
theorem NB_neg (n : Int) (h : n < 0) (g : -9223372036854775808 ≤ n) : Ending.returned (.agg #[.bool true, .int .u64 (IntKind.u64.wrap (-IntKind.u64.wrap n))]) = .returned (NB n) := by
  have e : IntKind.u64.wrap (-IntKind.u64.wrap n) = n.natAbs := by rw [IntKind.wrap_u64, IntKind.wrap_u64]; omega
  rw [e]; simp [NB, h]
theorem NB_pos (n : Int) (h : 0 ≤ n) : Ending.returned (.agg #[.bool false, .int .u64 n]) = .returned (NB n) := by
  have e : (n.natAbs : Int) = n := by omega
  have c : ¬ n < 0 := by omega
  simp [NB, c, e]
set_option maxHeartbeats 400000 in
theorem numberFrom_of (n : Int) (w : World) (g : -9223372036854775808 ≤ n ∧ n < 9223372036854775808) :
    Calls Tryz.prog 138 #[.int .i64 n] w fun e w' => e = .returned (NB n) ∧ Below w.heap.size w w' := by
  by_cases c : n < 0
  · go_enter Tryz.func138, Tryz.ntmps138
    go_wp2
    exact bodyPost_ret (v := .agg #[.bool true, .int .u64 (IntKind.u64.wrap (-IntKind.u64.wrap n))]) (by simp [results, Tryz.results138, go_sem]) rfl ⟨NB_neg n c g.1, (Below.refl _ _).alloc (Nat.le_refl _) _⟩
  · go_enter Tryz.func138, Tryz.ntmps138
    go_wp2
    exact bodyPost_ret (v := .agg #[.bool false, .int .u64 n]) (by simp [results, Tryz.results138, go_sem]) rfl ⟨NB_pos n (by omega), (Below.refl _ _).alloc (Nat.le_refl _) _⟩
def cmpI (a b : Int) : Int := if a < b then -1 else if b < a then 1 else 0
theorem cmpI_lt {a b : Int} (h : a < b) : -1 = cmpI a b := by unfold cmpI; rw [if_pos h]
theorem cmpI_gt {a b : Int} (h : b < a) : 1 = cmpI a b := by unfold cmpI; rw [if_neg (by omega), if_pos h]
theorem cmpI_eq {a b : Int} (h : ¬ a < b) (g : ¬ b < a) : 0 = cmpI a b := by unfold cmpI; rw [if_neg h, if_neg g]
set_option maxHeartbeats 400000 in
theorem Compare_of (a b : Int) (w : World) :
    Calls Tryz.prog 146 #[.int .u64 a, .int .u64 b] w fun e w' => e = .returned (.int .i64 (cmpI a b)) ∧ w' = w := by
  by_cases c : a < b
  · have r := cmpI_lt c
    have R : Hid (-1 = cmpI a b) := r
    clear r
    go_enter Tryz.func146, Tryz.ntmps146
    go_wp2
    go_ret
    exact ⟨ret_int R.out, rfl⟩
  by_cases d : b < a
  · have R : Hid (1 = cmpI a b) := cmpI_gt d
    go_enter Tryz.func146, Tryz.ntmps146
    go_wp2
    go_ret
    exact ⟨ret_int R.out, rfl⟩
  · have R : Hid (0 = cmpI a b) := cmpI_eq c d
    go_enter Tryz.func146, Tryz.ntmps146
    go_wp2
    go_ret
    exact ⟨ret_int R.out, rfl⟩
/-- A value's number. -/
def num (k b : Int) : Int := if 2 ≤ k ∧ k ≤ 5 ∨ k = 14 then wrap64 b else b
theorem num_s {k b : Int} (h : 2 ≤ k ∧ k ≤ 5 ∨ k = 14) : num k b = wrap64 b := by unfold num; rw [if_pos h]
theorem num_u {k b : Int} (h : ¬ (2 ≤ k ∧ k ≤ 5 ∨ k = 14)) : num k b = b := by unfold num; rw [if_neg h]
theorem wrap64_bd (b : Int) : -9223372036854775808 ≤ wrap64 b ∧ wrap64 b < 9223372036854775808 := by unfold wrap64; omega
/-- Behind a call that only makes memory all old cells and marks read as before. -/
theorem bcell {W w1 : World} (hb : Below W.heap.size W w1) : (∀ b o, b < W.heap.size → w1.cell? ⟨b, o, none⟩ = W.cell? ⟨b, o, none⟩) ∧ (∀ b o, b < W.heap.size → w1.frozen? ⟨b, o, none⟩ = W.frozen? ⟨b, o, none⟩) :=
  ⟨fun b o h => hb.cell (p := ⟨b, o, none⟩) h, fun b o h => hb.frozen (p := ⟨b, o, none⟩) h⟩
/-- The end of a call that boxes one thing, makes another, calls, and stores into the second. -/
theorem below_two {w w1 : World} {x y : Obj} (hb : Below ((w.alloc x).alloc y).heap.size ((w.alloc x).alloc y) w1) {u v : Value} {i j : Nat} :
    Below w.heap.size w ((w1.setCell ⟨w.heap.size + 1, i, none⟩ u).setCell ⟨w.heap.size + 1, j, none⟩ v) :=
  (((((Below.refl _ _).alloc (Nat.le_refl _) _).alloc (by simp) _).trans (hb.mono (by simp; omega))).setCell (by simp) _).setCell (by simp) _
set_option maxHeartbeats 400000 in
theorem numberOf_s (k b : Int) (s : ByteArray) (w : World) (h0 : 0 ≤ b) (h1 : b < 18446744073709551616) (c1 : 2 ≤ k) (c2 : k ≤ 5) :
    Calls Tryz.prog 132 #[V k b s] w fun e w' => e = .returned (NB (num k b)) ∧ Below w.heap.size w w' := by
  rw [num_s (.inl ⟨c1, c2⟩)]
  go_enter Tryz.func132, Tryz.ntmps132
  go_wp2_with (first | (go_at_call 138; refine (numberFrom_of _ _ (wrap64_bd b)).mono ?_; rintro e w1 ⟨rfl, hb⟩; obtain ⟨hc, hf⟩ := bcell hb) | go_in)
  exact bodyPost_ret (v := NB (wrap64 b)) (by simp [results, Tryz.results132, go_sem, hc]) rfl ⟨rfl, below_two hb⟩
set_option maxHeartbeats 400000 in
theorem numberOf_t (b : Int) (s : ByteArray) (w : World) (h0 : 0 ≤ b) (h1 : b < 18446744073709551616) :
    Calls Tryz.prog 132 #[V 14 b s] w fun e w' => e = .returned (NB (num 14 b)) ∧ Below w.heap.size w w' := by
  rw [num_s (.inr rfl)]
  go_enter Tryz.func132, Tryz.ntmps132
  go_wp2_with (first | (go_at_call 138; refine (numberFrom_of _ _ (wrap64_bd b)).mono ?_; rintro e w1 ⟨rfl, hb⟩; obtain ⟨hc, hf⟩ := bcell hb) | go_in)
  exact bodyPost_ret (v := NB (wrap64 b)) (by simp [results, Tryz.results132, go_sem, hc]) rfl ⟨rfl, below_two hb⟩
set_option maxHeartbeats 400000 in
theorem numberOf_u1 (k b : Int) (s : ByteArray) (w : World) (h0 : 0 ≤ b) (h1 : b < 18446744073709551616) (c : k < 2) :
    Calls Tryz.prog 132 #[V k b s] w fun e w' => e = .returned (NB (num k b)) ∧ Below w.heap.size w w' := by
  rw [num_u (by omega)]
  have c14 : (k == 14) = false := by simp; omega
  go_enter Tryz.func132, Tryz.ntmps132
  go_wp2
  exact bodyPost_ret (v := .agg #[.bool false, .int .u64 b]) (by simp [results, Tryz.results132, go_sem]) rfl ⟨NB_pos b h0, ((Below.refl _ _).alloc (Nat.le_refl _) _).alloc (by simp) _⟩
set_option maxHeartbeats 400000 in
theorem numberOf_u2 (k b : Int) (s : ByteArray) (w : World) (h0 : 0 ≤ b) (h1 : b < 18446744073709551616) (c : 5 < k) (d : ¬ k = 14) :
    Calls Tryz.prog 132 #[V k b s] w fun e w' => e = .returned (NB (num k b)) ∧ Below w.heap.size w w' := by
  rw [num_u (by omega)]
  have c14 : (k == 14) = false := by simp; omega
  go_enter Tryz.func132, Tryz.ntmps132
  go_wp2
  exact bodyPost_ret (v := .agg #[.bool false, .int .u64 b]) (by simp [results, Tryz.results132, go_sem]) rfl ⟨NB_pos b h0, ((Below.refl _ _).alloc (Nat.le_refl _) _).alloc (by simp) _⟩
theorem numberOf_of (k b : Int) (s : ByteArray) (w : World) (h0 : 0 ≤ b) (h1 : b < 18446744073709551616) :
    Calls Tryz.prog 132 #[V k b s] w fun e w' => e = .returned (NB (num k b)) ∧ Below w.heap.size w w' := by
  by_cases a : k < 2
  · exact numberOf_u1 k b s w h0 h1 a
  by_cases c : k ≤ 5
  · exact numberOf_s k b s w h0 h1 (by omega) c
  by_cases d : k = 14
  · subst d; exact numberOf_t b s w h0 h1
  · exact numberOf_u2 k b s w h0 h1 (by omega) d
end Go.Proofs.YtdcjngakmkgbmaaGreat
namespace Go.Proofs.YtdcjngakmkgbmaaGreat
set_option linter.unusedVariables false
open Go.RowKit
set_option maxHeartbeats 400000 in
theorem order_raw (p q : Bool) (a b : Int) (w : World) :
    Calls Tryz.prog 137 #[.agg #[.bool p, .int .u64 a], .agg #[.bool q, .int .u64 b]] w fun e w' =>
      e = .returned (.int .i64 (if p && !q then -1 else if q && !p then 1 else if p then cmpI b a else cmpI a b)) ∧ Below w.heap.size w w' := by
  cases p <;> cases q
  all_goals
    go_enter Tryz.func137, Tryz.ntmps137
    go_wp2_with (first | (go_at_call 146; refine (Compare_of _ _ _).mono ?_; rintro e w1 ⟨rfl, rfl⟩))
    go_ret
    exact ⟨ret_int (by simp), ((Below.refl _ _).alloc (Nat.le_refl _) _).alloc (by simp) _⟩
theorem order_of (a b : Int) (w : World) :
    Calls Tryz.prog 137 #[NB a, NB b] w fun e w' => e = .returned (.int .i64 (cmpI a b)) ∧ Below w.heap.size w w' := by
  refine (order_raw (decide (a < 0)) (decide (b < 0)) a.natAbs b.natAbs w).mono ?_
  rintro e w' ⟨rfl, hb⟩
  refine ⟨ret_int ?_, hb⟩
  by_cases ha : a < 0 <;> by_cases hb : b < 0 <;> simp only [ha, hb, decide_true, decide_false, Bool.not_true, Bool.not_false, Bool.and_true, Bool.and_false, if_true, if_false, Bool.false_eq_true] <;> unfold cmpI <;> (repeat' split) <;> omega
end Go.Proofs.YtdcjngakmkgbmaaGreat
namespace Go.Proofs.YtdcjngakmkgbmaaGreat
set_option linter.unusedVariables false
open Go.RowKit
theorem win_f (n lo hi : Int) (c : n < lo) : false = decide (lo ≤ n ∧ n ≤ hi) := by symm; simp; omega
theorem win_t (n lo hi : Int) (c : ¬ n < lo) : decide (cmpI n hi ≤ 0) = decide (lo ≤ n ∧ n ≤ hi) := by
  rw [Bool.eq_iff_iff]; simp only [decide_eq_true_eq]; unfold cmpI; split <;> (try split) <;> omega
set_option maxHeartbeats 400000 in
theorem within_of (n lo hi : Int) (w : World) (g1 : -9223372036854775808 ≤ lo ∧ lo < 9223372036854775808) (g2 : -9223372036854775808 ≤ hi ∧ hi < 9223372036854775808) :
    Calls Tryz.prog 131 #[NB n, .int .i64 lo, .int .i64 hi] w fun e w' => e = .returned (.bool (decide (lo ≤ n ∧ n ≤ hi))) ∧ Below w.heap.size w w' := by
  by_cases c : n < lo
  · have d : decide (0 ≤ cmpI n lo) = false := by rw [← cmpI_lt c]; rfl
    go_enter Tryz.func131, Tryz.ntmps131
    go_wp2
    have hc0 : ∀ x : Sub (w.alloc (Obj.cells #[Value.bool (decide (n < 0)), Value.int IntKind.u64 ↑n.natAbs] 173)), x.w.cell? ⟨w.heap.size, 0, none⟩ = some (.bool (decide (n < 0))) := fun x => by rw [x.cell _ _ (by simp)]; simp
    have hc1 : ∀ x : Sub (w.alloc (Obj.cells #[Value.bool (decide (n < 0)), Value.int IntKind.u64 ↑n.natAbs] 173)), x.w.cell? ⟨w.heap.size, 1, none⟩ = some (.int .u64 n.natAbs) := fun x => by rw [x.cell _ _ (by simp)]; simp
    refine wp_region_sub (by kernel_rfl) (by kernel_rfl) ?_
    repeat (first | go_big_quiet_skip | (go_big_quiet_want; go_big_quiet_op; first | go_big_quiet_on | (refine ⟨_, fun _ => rfl, ?_⟩; go_big_quiet_on) | go_big_quiet_call (first | (go_at_call 138; refine calls_sub (numberFrom_of _ _ ?_); first | exact g1 | exact g2) | (go_at_call 137; exact calls_sub (order_of _ _ _)))))
    refine wpQuiet_nil ?_
    rintro _ ⟨x, rfl⟩
    go_wp2
    go_ret
    exact ⟨ret_bool (by first | exact win_f n lo hi c | exact win_t n lo hi (by omega)), ((Below.refl _ _).alloc (Nat.le_refl _) _).trans (x.h.mono (by simp))⟩
  · have d : 0 ≤ cmpI n lo := by unfold cmpI; rw [if_neg c]; split <;> omega
    go_enter Tryz.func131, Tryz.ntmps131
    go_wp2
    have hc0 : ∀ x : Sub (w.alloc (Obj.cells #[Value.bool (decide (n < 0)), Value.int IntKind.u64 ↑n.natAbs] 173)), x.w.cell? ⟨w.heap.size, 0, none⟩ = some (.bool (decide (n < 0))) := fun x => by rw [x.cell _ _ (by simp)]; simp
    have hc1 : ∀ x : Sub (w.alloc (Obj.cells #[Value.bool (decide (n < 0)), Value.int IntKind.u64 ↑n.natAbs] 173)), x.w.cell? ⟨w.heap.size, 1, none⟩ = some (.int .u64 n.natAbs) := fun x => by rw [x.cell _ _ (by simp)]; simp
    refine wp_region_sub (by kernel_rfl) (by kernel_rfl) ?_
    repeat (first | go_big_quiet_skip | (go_big_quiet_want; go_big_quiet_op; first | go_big_quiet_on | (refine ⟨_, fun _ => rfl, ?_⟩; go_big_quiet_on) | go_big_quiet_call (first | (go_at_call 138; refine calls_sub (numberFrom_of _ _ ?_); first | exact g1 | exact g2) | (go_at_call 137; exact calls_sub (order_of _ _ _)))))
    refine wpQuiet_nil ?_
    rintro _ ⟨x, rfl⟩
    go_wp2
    go_ret
    exact ⟨ret_bool (by first | exact win_f n lo hi c | exact win_t n lo hi (by omega)), ((Below.refl _ _).alloc (Nat.le_refl _) _).trans (x.h.mono (by simp))⟩
end Go.Proofs.YtdcjngakmkgbmaaGreat
namespace Go.Proofs.YtdcjngakmkgbmaaGreat
set_option linter.unusedVariables false
open Go.RowKit
/-- An api.Type. -/
abbrev T (tk : Int) (sub : Bool) (lo hi mx : Int) (arr : Bool) (fr tz : Int) (bl : ByteArray) : Value :=
  .agg #[.int .u8 tk, .bool sub, .int .i64 lo, .int .i64 hi, .int .i64 mx, .bool arr, .int .i64 fr, .int .i64 tz, .string bl]
/-- The fault that keeps a value from a variable of a type. -/
def fitsF (k b : Int) (s : ByteArray) (tk : Int) (sub : Bool) (lo hi mx : Int) : Int :=
  if may3 k b s = false ∨ ¬ k = tk then 8 else if sub = true ∧ (2 ≤ k ∧ k ≤ 9) ∧ ¬ (lo ≤ num k b ∧ num k b ≤ hi) then 3
  else if k = 19 ∧ 1 ≤ mx ∧ mx < s.size then 5 else 0
set_option maxHeartbeats 400000 in
theorem isInteger_of (k : Int) (w : World) (p : Bool) (h : p = decide (2 ≤ k ∧ k ≤ 9)) : Calls Tryz.prog 130 #[.int .u8 k] w fun e w' => e = .returned (.bool p) ∧ w' = w := by
  subst h
  by_cases c : 2 ≤ k
  · by_cases d : k ≤ 9
    · go_enter Tryz.func130, Tryz.ntmps130
      go_wp2
      go_ret
      exact ⟨ret_bool (by simp [*]), rfl⟩
    · go_enter Tryz.func130, Tryz.ntmps130
      go_wp2
      go_ret
      exact ⟨ret_bool (by symm; simp; omega), rfl⟩
  · go_enter Tryz.func130, Tryz.ntmps130
    go_wp2
    go_ret
    exact ⟨ret_bool (by symm; simp; omega), rfl⟩
theorem fitsF_c1 (k b : Int) (s : ByteArray) (sub : Bool) (lo hi mx : Int) (c : may3 k b s = true) (d : ¬ (sub = true ∧ (2 ≤ k ∧ k ≤ 9) ∧ ¬ (lo ≤ num k b ∧ num k b ≤ hi))) : fitsF k b s k sub lo hi mx = if k = 19 ∧ 1 ≤ mx ∧ mx < s.size then 5 else 0 := by
  unfold fitsF; rw [if_neg (by simp [c]), if_neg d]
theorem fitsF_c2 (k b : Int) (s : ByteArray) (lo hi mx : Int) (c : may3 k b s = true) (e : 2 ≤ k ∧ k ≤ 9) (d : ¬ (lo ≤ num k b ∧ num k b ≤ hi)) : fitsF k b s k true lo hi mx = 3 := by
  unfold fitsF; rw [if_neg (by simp [c]), if_pos ⟨rfl, e, d⟩]
section
variable (tk : Int) (sub : Bool) (lo hi mx : Int) (arr : Bool) (fr tz : Int) (bl : ByteArray) (k b : Int) (s : ByteArray) (w : World)
set_option maxHeartbeats 400000 in
theorem Fits_a (h0 : 0 ≤ b) (h1 : b < 18446744073709551616) (hk : 0 ≤ k ∧ k < 256) (hs : s.size ≤ maxLen) (c : may3 k b s = false) :
    Calls Tryz.prog 120 #[T tk sub lo hi mx arr fr tz bl, V k b s] w fun e w' => e = .returned (.int .i64 (fitsF k b s tk sub lo hi mx)) ∧ Below w.heap.size w w' := by
  have R : Hid (8 = fitsF k b s tk sub lo hi mx) := by unfold fitsF; rw [if_pos (.inl c)]; rfl
  go_enter Tryz.func120, Tryz.ntmps120
  go_wp2_with (first | (go_at_call 123; refine (May_of _ _ _ _ h0 h1 hk hs).mono ?_; rintro e w1 ⟨rfl, hb⟩; obtain ⟨hc, hf⟩ := bcell hb))
  go_ret
  exact ⟨ret_int R.out, (((Below.refl _ _).alloc (Nat.le_refl _) _).alloc (by simp) _).trans (hb.mono (by simp; omega))⟩
set_option maxHeartbeats 400000 in
theorem Fits_b (h0 : 0 ≤ b) (h1 : b < 18446744073709551616) (hk : 0 ≤ k ∧ k < 256) (hs : s.size ≤ maxLen) (c : may3 k b s = true) (d : (k != tk) = true) :
    Calls Tryz.prog 120 #[T tk sub lo hi mx arr fr tz bl, V k b s] w fun e w' => e = .returned (.int .i64 (fitsF k b s tk sub lo hi mx)) ∧ Below w.heap.size w w' := by
  have R : Hid (8 = fitsF k b s tk sub lo hi mx) := by unfold fitsF; rw [if_pos (.inr (by simpa using d))]; rfl
  go_enter Tryz.func120, Tryz.ntmps120
  go_wp2_with (first | (go_at_call 123; refine (May_of _ _ _ _ h0 h1 hk hs).mono ?_; rintro e w1 ⟨rfl, hb⟩; obtain ⟨hc, hf⟩ := bcell hb))
  go_ret
  exact ⟨ret_int R.out, (((Below.refl _ _).alloc (Nat.le_refl _) _).alloc (by simp) _).trans (hb.mono (by simp; omega))⟩
set_option maxHeartbeats 1000000 in
theorem Fits_c (h0 : 0 ≤ b) (h1 : b < 18446744073709551616) (hk : 0 ≤ k ∧ k < 256) (hs : s.size ≤ maxLen) (c : may3 k b s = true) :
    Calls Tryz.prog 120 #[T k false lo hi mx arr fr tz bl, V k b s] w fun e w' => e = .returned (.int .i64 (fitsF k b s k false lo hi mx)) ∧ Below w.heap.size w w' := by
  have R : Hid (fitsF k b s k false lo hi mx = if k = 19 ∧ 1 ≤ mx ∧ mx < s.size then 5 else 0) := fitsF_c1 k b s false lo hi mx c (by simp)
  go_enter Tryz.func120, Tryz.ntmps120
  go_wp2_with (first | (go_at_call 123; refine (May_of _ _ _ _ h0 h1 hk hs).mono ?_; rintro e w1 ⟨rfl, hb⟩; obtain ⟨hc, hf⟩ := bcell hb))
  have hz : w.heap.size + 2 ≤ w1.heap.size := by have := hb.size; simp at this; omega
  have z0 : w.heap.size < w1.heap.size := by omega
  have z1 : w.heap.size + 1 < w1.heap.size := by omega
  have HB : Hid (Below w.heap.size w w1) := (((Below.refl _ _).alloc (Nat.le_refl _) _).alloc (by simp) _).trans (hb.mono (by simp; omega))
  clear hf hb hz
  have cx := fun (x : Sub w1) => x.cell
  refine wp_region_sub (by kernel_rfl) (by kernel_rfl) ?_
  repeat (first | go_big_quiet_skip | (go_big_quiet_want; go_big_quiet_op; first | go_big_quiet_on | (refine ⟨_, fun _ => rfl, ?_⟩; go_big_quiet_on) | go_big_quiet_call (fail)))
  refine wpQuiet_nil ?_
  rintro _ ⟨x, rfl⟩
  have HX : Hid (Below w.heap.size w x.w) := HB.out.trans (x.h.mono (by omega))
  unfold maxLen at hs
  go_wp2
  all_goals
    go_ret
    refine ⟨ret_int ?_, HX.out⟩
    first | rw [R.out] | (have e : k = 19 := (by assumption); rw [← e, R.out])
    first | rw [if_pos (by omega)] | rw [if_neg (by omega)]
set_option maxHeartbeats 1000000 in
theorem Fits_d (h0 : 0 ≤ b) (h1 : b < 18446744073709551616) (hk : 0 ≤ k ∧ k < 256) (hs : s.size ≤ maxLen) (c : may3 k b s = true) (i : ¬ (2 ≤ k ∧ k ≤ 9)) :
    Calls Tryz.prog 120 #[T k true lo hi mx arr fr tz bl, V k b s] w fun e w' => e = .returned (.int .i64 (fitsF k b s k true lo hi mx)) ∧ Below w.heap.size w w' := by
  have R : Hid (fitsF k b s k true lo hi mx = if k = 19 ∧ 1 ≤ mx ∧ mx < s.size then 5 else 0) := fitsF_c1 k b s true lo hi mx c (by simp only [true_and]; exact fun h => i h.1)
  have I : Hid (¬ (2 ≤ k ∧ k ≤ 9)) := i
  clear i
  go_enter Tryz.func120, Tryz.ntmps120
  go_wp2_with (first | (go_at_call 123; refine (May_of _ _ _ _ h0 h1 hk hs).mono ?_; rintro e w1 ⟨rfl, hb⟩; obtain ⟨hc, hf⟩ := bcell hb))
  have hz : w.heap.size + 2 ≤ w1.heap.size := by have := hb.size; simp at this; omega
  have z0 : w.heap.size < w1.heap.size := by omega
  have z1 : w.heap.size + 1 < w1.heap.size := by omega
  have HB : Hid (Below w.heap.size w w1) := (((Below.refl _ _).alloc (Nat.le_refl _) _).alloc (by simp) _).trans (hb.mono (by simp; omega))
  clear hf hb hz
  have cx := fun (x : Sub w1) => x.cell
  refine wp_region_sub (by kernel_rfl) (by kernel_rfl) ?_
  repeat (first | go_big_quiet_skip | (go_big_quiet_want; go_big_quiet_op; first | go_big_quiet_on | (refine ⟨_, fun _ => rfl, ?_⟩; go_big_quiet_on) | go_big_quiet_call (first | (go_at_call 130; exact calls_sub_same (isInteger_of _ _ false (by symm; simpa using I.out))))))
  refine wpQuiet_nil ?_
  rintro _ ⟨x, rfl⟩
  have HX : Hid (Below w.heap.size w x.w) := HB.out.trans (x.h.mono (by omega))
  unfold maxLen at hs
  go_wp2
  all_goals
    go_ret
    refine ⟨ret_int ?_, HX.out⟩
    first | rw [R.out] | (have e : k = 19 := (by assumption); rw [← e, R.out])
    first | rw [if_pos (by omega)] | rw [if_neg (by omega)]
set_option maxHeartbeats 1000000 in
theorem Fits_e (h0 : 0 ≤ b) (h1 : b < 18446744073709551616) (hk : 0 ≤ k ∧ k < 256) (hs : s.size ≤ maxLen) (c : may3 k b s = true) (i : 2 ≤ k ∧ k ≤ 9) (g1 : -9223372036854775808 ≤ lo ∧ lo < 9223372036854775808) (g2 : -9223372036854775808 ≤ hi ∧ hi < 9223372036854775808) (n : decide (lo ≤ num k b ∧ num k b ≤ hi) = true) :
    Calls Tryz.prog 120 #[T k true lo hi mx arr fr tz bl, V k b s] w fun e w' => e = .returned (.int .i64 (fitsF k b s k true lo hi mx)) ∧ Below w.heap.size w w' := by
  have R : Hid (fitsF k b s k true lo hi mx = if k = 19 ∧ 1 ≤ mx ∧ mx < s.size then 5 else 0) := fitsF_c1 k b s true lo hi mx c (by simp only [true_and]; exact fun h => h.2 (by simpa using n))
  have I : Hid (2 ≤ k ∧ k ≤ 9) := i
  clear i
  go_enter Tryz.func120, Tryz.ntmps120
  go_wp2_with (first | (go_at_call 123; refine (May_of _ _ _ _ h0 h1 hk hs).mono ?_; rintro e w1 ⟨rfl, hb⟩; obtain ⟨hc, hf⟩ := bcell hb))
  have hz : w.heap.size + 2 ≤ w1.heap.size := by have := hb.size; simp at this; omega
  have z0 : w.heap.size < w1.heap.size := by omega
  have z1 : w.heap.size + 1 < w1.heap.size := by omega
  have HB : Hid (Below w.heap.size w w1) := (((Below.refl _ _).alloc (Nat.le_refl _) _).alloc (by simp) _).trans (hb.mono (by simp; omega))
  clear hf hb hz
  have cx := fun (x : Sub w1) => x.cell
  refine wp_region_sub (by kernel_rfl) (by kernel_rfl) ?_
  repeat (first | go_big_quiet_skip | (go_big_quiet_want; go_big_quiet_op; first | go_big_quiet_on | (refine ⟨_, fun _ => rfl, ?_⟩; go_big_quiet_on) | go_big_quiet_call (first | (go_at_call 130; exact calls_sub_same (isInteger_of _ _ true (by symm; simpa using I.out))) | (go_at_call 132; exact calls_sub (numberOf_of _ _ _ _ h0 h1)) | (go_at_call 131; exact calls_sub (within_of _ _ _ _ g1 g2)))))
  refine wpQuiet_nil ?_
  rintro _ ⟨x, rfl⟩
  have HX : Hid (Below w.heap.size w x.w) := HB.out.trans (x.h.mono (by omega))
  unfold maxLen at hs
  go_wp2
  all_goals
    go_ret
    refine ⟨ret_int ?_, HX.out⟩
    first | rw [R.out] | (have e : k = 19 := (by assumption); rw [← e, R.out])
    first | rw [if_pos (by omega)] | rw [if_neg (by omega)]
set_option maxHeartbeats 1000000 in
theorem Fits_f (h0 : 0 ≤ b) (h1 : b < 18446744073709551616) (hk : 0 ≤ k ∧ k < 256) (hs : s.size ≤ maxLen) (c : may3 k b s = true) (i : 2 ≤ k ∧ k ≤ 9) (g1 : -9223372036854775808 ≤ lo ∧ lo < 9223372036854775808) (g2 : -9223372036854775808 ≤ hi ∧ hi < 9223372036854775808) (n : decide (lo ≤ num k b ∧ num k b ≤ hi) = false) :
    Calls Tryz.prog 120 #[T k true lo hi mx arr fr tz bl, V k b s] w fun e w' => e = .returned (.int .i64 (fitsF k b s k true lo hi mx)) ∧ Below w.heap.size w w' := by
  have R : Hid (3 = fitsF k b s k true lo hi mx) := (fitsF_c2 k b s lo hi mx c i (by simpa using n)).symm
  have I : Hid (2 ≤ k ∧ k ≤ 9) := i
  clear i
  go_enter Tryz.func120, Tryz.ntmps120
  go_wp2_with (first | (go_at_call 123; refine (May_of _ _ _ _ h0 h1 hk hs).mono ?_; rintro e w1 ⟨rfl, hb⟩; obtain ⟨hc, hf⟩ := bcell hb))
  have hz : w.heap.size + 2 ≤ w1.heap.size := by have := hb.size; simp at this; omega
  have z0 : w.heap.size < w1.heap.size := by omega
  have z1 : w.heap.size + 1 < w1.heap.size := by omega
  have HB : Hid (Below w.heap.size w w1) := (((Below.refl _ _).alloc (Nat.le_refl _) _).alloc (by simp) _).trans (hb.mono (by simp; omega))
  clear hf hb hz
  have cx := fun (x : Sub w1) => x.cell
  refine wp_region_sub (by kernel_rfl) (by kernel_rfl) ?_
  repeat (first | go_big_quiet_skip | (go_big_quiet_want; go_big_quiet_op; first | go_big_quiet_on | (refine ⟨_, fun _ => rfl, ?_⟩; go_big_quiet_on) | go_big_quiet_call (first | (go_at_call 130; exact calls_sub_same (isInteger_of _ _ true (by symm; simpa using I.out))) | (go_at_call 132; exact calls_sub (numberOf_of _ _ _ _ h0 h1)) | (go_at_call 131; exact calls_sub (within_of _ _ _ _ g1 g2)))))
  refine wpQuiet_nil ?_
  rintro _ ⟨x, rfl⟩
  have HX : Hid (Below w.heap.size w x.w) := HB.out.trans (x.h.mono (by omega))
  go_wp2
  go_ret
  exact ⟨ret_int R.out, HX.out⟩
theorem Fits_of (h0 : 0 ≤ b) (h1 : b < 18446744073709551616) (hk : 0 ≤ k ∧ k < 256) (hs : s.size ≤ maxLen) (g1 : -9223372036854775808 ≤ lo ∧ lo < 9223372036854775808) (g2 : -9223372036854775808 ≤ hi ∧ hi < 9223372036854775808) :
    Calls Tryz.prog 120 #[T tk sub lo hi mx arr fr tz bl, V k b s] w fun e w' => e = .returned (.int .i64 (fitsF k b s tk sub lo hi mx)) ∧ Below w.heap.size w w' := by
  cases c : may3 k b s
  · exact Fits_a tk sub lo hi mx arr fr tz bl k b s w h0 h1 hk hs c
  by_cases d : k = tk
  · subst d
    cases sub
    · exact Fits_c lo hi mx arr fr tz bl k b s w h0 h1 hk hs c
    by_cases i : 2 ≤ k ∧ k ≤ 9
    · cases n : decide (lo ≤ num k b ∧ num k b ≤ hi)
      · exact Fits_f lo hi mx arr fr tz bl k b s w h0 h1 hk hs c i g1 g2 n
      · exact Fits_e lo hi mx arr fr tz bl k b s w h0 h1 hk hs c i g1 g2 n
    · exact Fits_d lo hi mx arr fr tz bl k b s w h0 h1 hk hs c i
  · exact Fits_b tk sub lo hi mx arr fr tz bl k b s w h0 h1 hk hs c (by simpa using d)
end
end Go.Proofs.YtdcjngakmkgbmaaGreat
