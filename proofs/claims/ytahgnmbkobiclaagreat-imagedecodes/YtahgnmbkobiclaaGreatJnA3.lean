/- A code copied; codes in a row copied; no statement of the seat is proved here. -/
import Derived.Test.YtahgnmbkobiclaaGreatMayAJ
import Derived.BigQuiet
import Derived.Test.YtahgnmbkobiclaaGreatJnA1
import Derived.Deep.RegionHeld3
import Derived.Test.YtahgnmbkobiclaaGreatJnA2
import Derived.Deep.DeepCutAuto
namespace Go.Proofs.YtahgnmbkobiclaaGreat
set_option linter.unusedVariables false
open Go.RowKit
theorem sgr_t (h m b : Int) (h0 : 0 ≤ b) (h1 : b < 18446744073709551616) (g0 : 0 < h) (g1 : h ≤ 9223372036854775808) (e : m + 1 = h) (c : -h ≤ wrap64 b) : decide (wrap64 b ≤ m) = sg h b := by
  rw [Bool.eq_iff_iff]; simp only [decide_eq_true_eq, sg]; unfold wrap64 at *; omega
theorem sgr_f (h b : Int) (h0 : 0 ≤ b) (h1 : b < 18446744073709551616) (g0 : 0 < h) (g1 : h ≤ 9223372036854775808) (c : wrap64 b < -h) : false = sg h b := by
  symm; simp only [decide_eq_false_iff_not, sg]; unfold wrap64 at *; omega
theorem ttr_t (h b : Int) (h0 : 0 ≤ b) (h1 : b < 18446744073709551616) (g1 : h ≤ 9223372036854775808) (c : 0 ≤ wrap64 b) : decide (wrap64 b < h) = decide (b < h) := by
  rw [Bool.eq_iff_iff]; simp only [decide_eq_true_eq]; unfold wrap64 at *; omega
theorem ttr_f (h b : Int) (h0 : 0 ≤ b) (h1 : b < 18446744073709551616) (g1 : h ≤ 9223372036854775808) (c : wrap64 b < 0) : false = decide (b < h) := by
  symm; simp only [decide_eq_false_iff_not]; unfold wrap64 at *; omega
theorem t15a (b : Int) (h0 : 0 ≤ b) (h1 : b < 18446744073709551616) (c : 0 ≤ wrap64 b) (d : wrap64 b < 7258118400000000000) : (wrap64 b % 86400000000000 == 0) = mayW 15 b := by
  have e : wrap64 b = b := by unfold wrap64 at *; omega
  rw [e] at d ⊢
  exact (mw15t b d).symm
theorem t15b (b : Int) (h0 : 0 ≤ b) (h1 : b < 18446744073709551616) (c : 0 ≤ wrap64 b) (d : 7258118400000000000 ≤ wrap64 b) : false = mayW 15 b :=
  (mw15f b (by unfold wrap64 at *; omega)).symm
theorem t15c (b : Int) (h0 : 0 ≤ b) (h1 : b < 18446744073709551616) (c : wrap64 b < 0) : false = mayW 15 b :=
  (mw15f b (by unfold wrap64 at *; omega)).symm
set_option maxHeartbeats 400000 in
theorem may_of (k b : Int) (w : World) (h0 : 0 ≤ b) (h1 : b < 18446744073709551616) (hk : 0 ≤ k ∧ k < 256) :
    Calls Tryz.prog 114 #[.int .u8 k, .int .u64 b] w fun e w' => e = .returned (.bool (mayW k b)) ∧ w' = w := by
  rcases kinds k hk with rfl | rfl | rfl | rfl | rfl | rfl | rfl | rfl | rfl | rfl | rfl | rfl | rfl | rfl | rfl | rfl | rfl | rfl | rfl | rfl | hk2

  · go_enter Tryz.func114, Tryz.ntmps114
    go_wp2
    all_goals
      go_ret
      refine ⟨ret_bool ?_, rfl⟩
      rw [mw1]; simp; omega
  · go_enter Tryz.func114, Tryz.ntmps114
    go_wp2
    all_goals
      go_ret
      refine ⟨ret_bool ?_, rfl⟩
      rw [mw2]
      first | exact sgr_t 128 127 b h0 h1 (by omega) (by omega) (by omega) ‹_› | exact sgr_f 128 b h0 h1 (by omega) (by omega) ‹_›
  · go_enter Tryz.func114, Tryz.ntmps114
    go_wp2
    all_goals
      go_ret
      refine ⟨ret_bool ?_, rfl⟩
      rw [mw3]
      first | exact sgr_t 32768 32767 b h0 h1 (by omega) (by omega) (by omega) ‹_› | exact sgr_f 32768 b h0 h1 (by omega) (by omega) ‹_›
  · go_enter Tryz.func114, Tryz.ntmps114
    go_wp2
    all_goals
      go_ret
      refine ⟨ret_bool ?_, rfl⟩
      rw [mw4]
      first | exact sgr_t 2147483648 2147483647 b h0 h1 (by omega) (by omega) (by omega) ‹_› | exact sgr_f 2147483648 b h0 h1 (by omega) (by omega) ‹_›
  · go_enter Tryz.func114, Tryz.ntmps114
    go_wp2
    all_goals
      go_ret
      refine ⟨ret_bool ?_, rfl⟩
      rw [mw5, sg_all]
  · go_enter Tryz.func114, Tryz.ntmps114
    go_wp2
    all_goals
      go_ret
      refine ⟨ret_bool ?_, rfl⟩
      rw [mw6]
  · go_enter Tryz.func114, Tryz.ntmps114
    go_wp2
    all_goals
      go_ret
      refine ⟨ret_bool ?_, rfl⟩
      rw [mw7]
  · go_enter Tryz.func114, Tryz.ntmps114
    go_wp2
    all_goals
      go_ret
      refine ⟨ret_bool ?_, rfl⟩
      rw [mw8]
  · go_enter Tryz.func114, Tryz.ntmps114
    go_wp2
    all_goals
      go_ret
      refine ⟨ret_bool ?_, rfl⟩
      rfl
  · go_enter Tryz.func114, Tryz.ntmps114
    go_wp2
    all_goals
      go_ret
      refine ⟨ret_bool ?_, rfl⟩
      rw [mw10]
  · go_enter Tryz.func114, Tryz.ntmps114
    go_wp2
    all_goals
      go_ret
      refine ⟨ret_bool ?_, rfl⟩
      rw [mw11]
  · go_enter Tryz.func114, Tryz.ntmps114
    go_wp2
    all_goals
      go_ret
      refine ⟨ret_bool ?_, rfl⟩
      rw [mw12]
  · go_enter Tryz.func114, Tryz.ntmps114
    go_wp2
    all_goals
      go_ret
      refine ⟨ret_bool ?_, rfl⟩
      rfl
  · go_enter Tryz.func114, Tryz.ntmps114
    go_wp2
    all_goals
      go_ret
      refine ⟨ret_bool ?_, rfl⟩
      rfl
  · go_enter Tryz.func114, Tryz.ntmps114
    go_wp2
    all_goals
      go_ret
      refine ⟨ret_bool ?_, rfl⟩
      first | exact t15a b h0 h1 ‹_› ‹_› | exact t15b b h0 h1 ‹_› ‹_› | exact t15c b h0 h1 ‹_›
  · go_enter Tryz.func114, Tryz.ntmps114
    go_wp2
    all_goals
      go_ret
      refine ⟨ret_bool ?_, rfl⟩
      rw [mw16]; first | exact ttr_t 86400000000000 b h0 h1 (by omega) ‹_› | exact ttr_f 86400000000000 b h0 h1 (by omega) ‹_›
  · go_enter Tryz.func114, Tryz.ntmps114
    go_wp2
    all_goals
      go_ret
      refine ⟨ret_bool ?_, rfl⟩
      rw [mw17]; first | exact ttr_t 7258118400000000000 b h0 h1 (by omega) ‹_› | exact ttr_f 7258118400000000000 b h0 h1 (by omega) ‹_›
  · go_enter Tryz.func114, Tryz.ntmps114
    go_wp2
    all_goals
      go_ret
      refine ⟨ret_bool ?_, rfl⟩
      rw [mw18]; first | rw [fnan_hi b h0 h1 ‹_›] | (rw [fnan_lo b h0 h1 ‹_›]; simp; done) | (simp [*]; done)
  · go_enter Tryz.func114, Tryz.ntmps114
    go_wp2
    all_goals
      go_ret
      refine ⟨ret_bool ?_, rfl⟩
      rfl
  · go_enter Tryz.func114, Tryz.ntmps114
    go_wp2
    all_goals
      go_ret
      refine ⟨ret_bool ?_, rfl⟩
      rfl
  · go_enter Tryz.func114, Tryz.ntmps114
    go_wp2
    all_goals
      go_ret
      refine ⟨ret_bool ?_, rfl⟩
      rw [mwx k b hk2]
end Go.Proofs.YtahgnmbkobiclaaGreat
namespace Go.Proofs.YtahgnmbkobiclaaGreat
set_option linter.unusedVariables false
open Go.RowKit
/-- May a value be? -/
def may3 (k b : Int) (s : ByteArray) : Bool :=
  if k = 19 then decide (b = 0 ∧ s.size ≤ 254) else decide (s.toList = []) && mayW k b
abbrev V (k b : Int) (s : ByteArray) : Value := .agg #[.int .u8 k, .int .u64 b, .string s]
theorem m3s (b : Int) (s : ByteArray) (h : b = 0) : decide ((s.size : Int) ≤ 254) = may3 19 b s := by
  subst h; rw [Bool.eq_iff_iff]; simp [may3]; omega
theorem m3n (b : Int) (s : ByteArray) (h : ¬ b = 0) : false = may3 19 b s := by simp [may3, h]
theorem m3e (k b : Int) (s : ByteArray) (c : ¬ k = 19) (h : s.toList = []) : mayW k b = may3 k b s := by simp [may3, h, c]
theorem m3f (k b : Int) (s : ByteArray) (c : ¬ k = 19) (h : ¬ s.toList = []) : false = may3 k b s := by simp [may3, h, c]
set_option maxHeartbeats 400000 in
theorem May_of (k b : Int) (s : ByteArray) (w : World) (h0 : 0 ≤ b) (h1 : b < 18446744073709551616) (hk : 0 ≤ k ∧ k < 256) (hs : s.size ≤ maxLen) :
    Calls Tryz.prog 131 #[V k b s] w fun e w' => e = .returned (.bool (may3 k b s)) ∧ Below w.heap.size w w' := by
  unfold maxLen at hs
  by_cases c : k = 19
  · subst c
    go_enter Tryz.func131, Tryz.ntmps131
    go_wp2
    all_goals
      go_ret
      refine ⟨ret_bool ?_, (Below.refl _ _).alloc (Nat.le_refl _) _⟩
      first | exact m3s b s ‹_› | exact m3n b s ‹_›
  · go_enter Tryz.func131, Tryz.ntmps131
    go_wp2_with (go_at_call 144; refine (mayBits_of _ _ _ h0 h1 hk).mono ?_; rintro e w' ⟨rfl, rfl⟩)
    all_goals
      go_ret
      refine ⟨ret_bool ?_, (Below.refl _ _).alloc (Nat.le_refl _) _⟩
      first | exact m3e k b s c ‹_› | exact m3f k b s c ‹_›
set_option maxHeartbeats 400000 in
theorem MayR_of (k b : Int) (s : ByteArray) (w : World) (h0 : 0 ≤ b) (h1 : b < 18446744073709551616) (hk : 0 ≤ k ∧ k < 256) (hs : s.size ≤ maxLen) :
    Calls Tryz.prog 74 #[V k b s] w fun e w' => e = .returned (.bool (may3 k b s)) ∧ Below w.heap.size w w' := by
  unfold maxLen at hs
  by_cases c : k = 19
  · subst c
    go_enter Tryz.func74, Tryz.ntmps74
    go_wp2
    all_goals
      go_ret
      refine ⟨ret_bool ?_, (Below.refl _ _).alloc (Nat.le_refl _) _⟩
      first | exact m3s b s ‹_› | exact m3n b s ‹_›
  · go_enter Tryz.func74, Tryz.ntmps74
    go_wp2_with (go_at_call 114; refine (may_of _ _ _ h0 h1 hk).mono ?_; rintro e w' ⟨rfl, rfl⟩)
    all_goals
      go_ret
      refine ⟨ret_bool ?_, (Below.refl _ _).alloc (Nat.le_refl _) _⟩
      first | exact m3e k b s c ‹_› | exact m3f k b s c ‹_›
end Go.Proofs.YtahgnmbkobiclaaGreat
namespace Go.Proofs.YtahgnmbkobiclaaGreat
set_option linter.unusedVariables false
open Go.RowKit
/-- A whole number as the program holds it: is it below 0, and its size. -/
abbrev NB (n : Int) : Value := .agg #[.bool (decide (n < 0)), .int .u64 n.natAbs]
theorem NB_neg (n : Int) (h : n < 0) (g : -9223372036854775808 ≤ n) : Ending.returned (.agg #[.bool true, .int .u64 (IntKind.u64.wrap (-IntKind.u64.wrap n))]) = .returned (NB n) := by
  have e : IntKind.u64.wrap (-IntKind.u64.wrap n) = n.natAbs := by rw [IntKind.wrap_u64, IntKind.wrap_u64]; omega
  rw [e]; simp [NB, h]
theorem NB_pos (n : Int) (h : 0 ≤ n) : Ending.returned (.agg #[.bool false, .int .u64 n]) = .returned (NB n) := by
  have e : (n.natAbs : Int) = n := by omega
  have c : ¬ n < 0 := by omega
  simp [NB, c, e]
set_option maxHeartbeats 400000 in
theorem numberFrom_of (n : Int) (w : World) (g : -9223372036854775808 ≤ n ∧ n < 9223372036854775808) :
    Calls Tryz.prog 146 #[.int .i64 n] w fun e w' => e = .returned (NB n) ∧ Below w.heap.size w w' := by
  by_cases c : n < 0
  · go_enter Tryz.func146, Tryz.ntmps146
    go_wp2
    exact bodyPost_ret (v := .agg #[.bool true, .int .u64 (IntKind.u64.wrap (-IntKind.u64.wrap n))]) (by simp [results, Tryz.results146, go_sem]) rfl ⟨NB_neg n c g.1, (Below.refl _ _).alloc (Nat.le_refl _) _⟩
  · go_enter Tryz.func146, Tryz.ntmps146
    go_wp2
    exact bodyPost_ret (v := .agg #[.bool false, .int .u64 n]) (by simp [results, Tryz.results146, go_sem]) rfl ⟨NB_pos n (by omega), (Below.refl _ _).alloc (Nat.le_refl _) _⟩
def cmpI (a b : Int) : Int := if a < b then -1 else if b < a then 1 else 0
theorem cmpI_lt {a b : Int} (h : a < b) : -1 = cmpI a b := by unfold cmpI; rw [if_pos h]
theorem cmpI_gt {a b : Int} (h : b < a) : 1 = cmpI a b := by unfold cmpI; rw [if_neg (by omega), if_pos h]
theorem cmpI_eq {a b : Int} (h : ¬ a < b) (g : ¬ b < a) : 0 = cmpI a b := by unfold cmpI; rw [if_neg h, if_neg g]
set_option maxHeartbeats 400000 in
theorem Compare_of (a b : Int) (w : World) :
    Calls Tryz.prog 154 #[.int .u64 a, .int .u64 b] w fun e w' => e = .returned (.int .i64 (cmpI a b)) ∧ w' = w := by
  by_cases c : a < b
  · have r := cmpI_lt c
    have R : Hid (-1 = cmpI a b) := r
    clear r
    go_enter Tryz.func154, Tryz.ntmps154
    go_wp2
    go_ret
    exact ⟨ret_int R.out, rfl⟩
  by_cases d : b < a
  · have R : Hid (1 = cmpI a b) := cmpI_gt d
    go_enter Tryz.func154, Tryz.ntmps154
    go_wp2
    go_ret
    exact ⟨ret_int R.out, rfl⟩
  · have R : Hid (0 = cmpI a b) := cmpI_eq c d
    go_enter Tryz.func154, Tryz.ntmps154
    go_wp2
    go_ret
    exact ⟨ret_int R.out, rfl⟩
/-- A value's number. -/
def num (k b : Int) : Int := if 2 ≤ k ∧ k ≤ 5 ∨ k = 14 then wrap64 b else b
theorem num_s {k b : Int} (h : 2 ≤ k ∧ k ≤ 5 ∨ k = 14) : num k b = wrap64 b := by unfold num; rw [if_pos h]
theorem num_u {k b : Int} (h : ¬ (2 ≤ k ∧ k ≤ 5 ∨ k = 14)) : num k b = b := by unfold num; rw [if_neg h]
theorem wrap64_bd (b : Int) : -9223372036854775808 ≤ wrap64 b ∧ wrap64 b < 9223372036854775808 := by unfold wrap64; omega
/-- Behind a call that only makes memory all old cells and marks read as before. -/
theorem bcell {W w1 : World} (hb : Below W.heap.size W w1) : (∀ b o, b < W.heap.size → w1.cell? ⟨b, o, none⟩ = W.cell? ⟨b, o, none⟩) ∧ (∀ b o, b < W.heap.size → w1.frozen? ⟨b, o, none⟩ = W.frozen? ⟨b, o, none⟩) :=
  ⟨fun b o h => hb.cell (p := ⟨b, o, none⟩) h, fun b o h => hb.frozen (p := ⟨b, o, none⟩) h⟩
/-- The end of a call that boxes one thing, makes another, calls, and stores into the second. -/
theorem below_two {w w1 : World} {x y : Obj} (hb : Below ((w.alloc x).alloc y).heap.size ((w.alloc x).alloc y) w1) {u v : Value} {i j : Nat} :
    Below w.heap.size w ((w1.setCell ⟨w.heap.size + 1, i, none⟩ u).setCell ⟨w.heap.size + 1, j, none⟩ v) :=
  (((((Below.refl _ _).alloc (Nat.le_refl _) _).alloc (by simp) _).trans (hb.mono (by simp; omega))).setCell (by simp) _).setCell (by simp) _
set_option maxHeartbeats 400000 in
theorem numberOf_s (k b : Int) (s : ByteArray) (w : World) (h0 : 0 ≤ b) (h1 : b < 18446744073709551616) (c1 : 2 ≤ k) (c2 : k ≤ 5) :
    Calls Tryz.prog 140 #[V k b s] w fun e w' => e = .returned (NB (num k b)) ∧ Below w.heap.size w w' := by
  rw [num_s (.inl ⟨c1, c2⟩)]
  go_enter Tryz.func140, Tryz.ntmps140
  go_wp2_with (first | (go_at_call 146; refine (numberFrom_of _ _ (wrap64_bd b)).mono ?_; rintro e w1 ⟨rfl, hb⟩; obtain ⟨hc, hf⟩ := bcell hb) | go_in)
  exact bodyPost_ret (v := NB (wrap64 b)) (by simp [results, Tryz.results140, go_sem, hc]) rfl ⟨rfl, below_two hb⟩
set_option maxHeartbeats 400000 in
theorem numberOf_t (b : Int) (s : ByteArray) (w : World) (h0 : 0 ≤ b) (h1 : b < 18446744073709551616) :
    Calls Tryz.prog 140 #[V 14 b s] w fun e w' => e = .returned (NB (num 14 b)) ∧ Below w.heap.size w w' := by
  rw [num_s (.inr rfl)]
  go_enter Tryz.func140, Tryz.ntmps140
  go_wp2_with (first | (go_at_call 146; refine (numberFrom_of _ _ (wrap64_bd b)).mono ?_; rintro e w1 ⟨rfl, hb⟩; obtain ⟨hc, hf⟩ := bcell hb) | go_in)
  exact bodyPost_ret (v := NB (wrap64 b)) (by simp [results, Tryz.results140, go_sem, hc]) rfl ⟨rfl, below_two hb⟩
set_option maxHeartbeats 400000 in
theorem numberOf_u1 (k b : Int) (s : ByteArray) (w : World) (h0 : 0 ≤ b) (h1 : b < 18446744073709551616) (c : k < 2) :
    Calls Tryz.prog 140 #[V k b s] w fun e w' => e = .returned (NB (num k b)) ∧ Below w.heap.size w w' := by
  rw [num_u (by omega)]
  have c14 : (k == 14) = false := by simp; omega
  go_enter Tryz.func140, Tryz.ntmps140
  go_wp2
  exact bodyPost_ret (v := .agg #[.bool false, .int .u64 b]) (by simp [results, Tryz.results140, go_sem]) rfl ⟨NB_pos b h0, ((Below.refl _ _).alloc (Nat.le_refl _) _).alloc (by simp) _⟩
set_option maxHeartbeats 400000 in
theorem numberOf_u2 (k b : Int) (s : ByteArray) (w : World) (h0 : 0 ≤ b) (h1 : b < 18446744073709551616) (c : 5 < k) (d : ¬ k = 14) :
    Calls Tryz.prog 140 #[V k b s] w fun e w' => e = .returned (NB (num k b)) ∧ Below w.heap.size w w' := by
  rw [num_u (by omega)]
  have c14 : (k == 14) = false := by simp; omega
  go_enter Tryz.func140, Tryz.ntmps140
  go_wp2
  exact bodyPost_ret (v := .agg #[.bool false, .int .u64 b]) (by simp [results, Tryz.results140, go_sem]) rfl ⟨NB_pos b h0, ((Below.refl _ _).alloc (Nat.le_refl _) _).alloc (by simp) _⟩
theorem numberOf_of (k b : Int) (s : ByteArray) (w : World) (h0 : 0 ≤ b) (h1 : b < 18446744073709551616) :
    Calls Tryz.prog 140 #[V k b s] w fun e w' => e = .returned (NB (num k b)) ∧ Below w.heap.size w w' := by
  by_cases a : k < 2
  · exact numberOf_u1 k b s w h0 h1 a
  by_cases c : k ≤ 5
  · exact numberOf_s k b s w h0 h1 (by omega) c
  by_cases d : k = 14
  · subst d; exact numberOf_t b s w h0 h1
  · exact numberOf_u2 k b s w h0 h1 (by omega) d
end Go.Proofs.YtahgnmbkobiclaaGreat
namespace Go.Proofs.YtahgnmbkobiclaaGreat
set_option linter.unusedVariables false
open Go.RowKit
set_option maxHeartbeats 400000 in
theorem order_raw (p q : Bool) (a b : Int) (w : World) :
    Calls Tryz.prog 145 #[.agg #[.bool p, .int .u64 a], .agg #[.bool q, .int .u64 b]] w fun e w' =>
      e = .returned (.int .i64 (if p && !q then -1 else if q && !p then 1 else if p then cmpI b a else cmpI a b)) ∧ Below w.heap.size w w' := by
  cases p <;> cases q
  all_goals
    go_enter Tryz.func145, Tryz.ntmps145
    go_wp2_with (first | (go_at_call 154; refine (Compare_of _ _ _).mono ?_; rintro e w1 ⟨rfl, rfl⟩))
    go_ret
    exact ⟨ret_int (by simp), ((Below.refl _ _).alloc (Nat.le_refl _) _).alloc (by simp) _⟩
theorem order_of (a b : Int) (w : World) :
    Calls Tryz.prog 145 #[NB a, NB b] w fun e w' => e = .returned (.int .i64 (cmpI a b)) ∧ Below w.heap.size w w' := by
  refine (order_raw (decide (a < 0)) (decide (b < 0)) a.natAbs b.natAbs w).mono ?_
  rintro e w' ⟨rfl, hb⟩
  refine ⟨ret_int ?_, hb⟩
  by_cases ha : a < 0 <;> by_cases hb : b < 0 <;> simp only [ha, hb, decide_true, decide_false, Bool.not_true, Bool.not_false, Bool.and_true, Bool.and_false, if_true, if_false, Bool.false_eq_true] <;> unfold cmpI <;> (repeat' split) <;> omega
end Go.Proofs.YtahgnmbkobiclaaGreat
namespace Go.Proofs.YtahgnmbkobiclaaGreat
set_option linter.unusedVariables false
open Go.RowKit
theorem win_f (n lo hi : Int) (c : n < lo) : false = decide (lo ≤ n ∧ n ≤ hi) := by symm; simp; omega
theorem win_t (n lo hi : Int) (c : ¬ n < lo) : decide (cmpI n hi ≤ 0) = decide (lo ≤ n ∧ n ≤ hi) := by
  rw [Bool.eq_iff_iff]; simp only [decide_eq_true_eq]; unfold cmpI; split <;> (try split) <;> omega
set_option maxHeartbeats 400000 in
theorem within_of (n lo hi : Int) (w : World) (g1 : -9223372036854775808 ≤ lo ∧ lo < 9223372036854775808) (g2 : -9223372036854775808 ≤ hi ∧ hi < 9223372036854775808) :
    Calls Tryz.prog 139 #[NB n, .int .i64 lo, .int .i64 hi] w fun e w' => e = .returned (.bool (decide (lo ≤ n ∧ n ≤ hi))) ∧ Below w.heap.size w w' := by
  by_cases c : n < lo
  · have d : decide (0 ≤ cmpI n lo) = false := by rw [← cmpI_lt c]; rfl
    go_enter Tryz.func139, Tryz.ntmps139
    go_wp2
    have hc0 : ∀ x : Sub (w.alloc (Obj.cells #[Value.bool (decide (n < 0)), Value.int IntKind.u64 ↑n.natAbs] 171)), x.w.cell? ⟨w.heap.size, 0, none⟩ = some (.bool (decide (n < 0))) := fun x => by rw [x.cell _ _ (by simp)]; simp
    have hc1 : ∀ x : Sub (w.alloc (Obj.cells #[Value.bool (decide (n < 0)), Value.int IntKind.u64 ↑n.natAbs] 171)), x.w.cell? ⟨w.heap.size, 1, none⟩ = some (.int .u64 n.natAbs) := fun x => by rw [x.cell _ _ (by simp)]; simp
    refine wp_region_sub (by kernel_rfl) (by kernel_rfl) ?_
    repeat (first | go_big_quiet_skip | (go_big_quiet_want; go_big_quiet_op; first | go_big_quiet_on | (refine ⟨_, fun _ => rfl, ?_⟩; go_big_quiet_on) | go_big_quiet_call (first | (go_at_call 146; refine calls_sub (numberFrom_of _ _ ?_); first | exact g1 | exact g2) | (go_at_call 145; exact calls_sub (order_of _ _ _)))))
    refine wpQuiet_nil ?_
    rintro _ ⟨x, rfl⟩
    go_wp2
    go_ret
    exact ⟨ret_bool (by first | exact win_f n lo hi c | exact win_t n lo hi (by omega)), ((Below.refl _ _).alloc (Nat.le_refl _) _).trans (x.h.mono (by simp))⟩
  · have d : 0 ≤ cmpI n lo := by unfold cmpI; rw [if_neg c]; split <;> omega
    go_enter Tryz.func139, Tryz.ntmps139
    go_wp2
    have hc0 : ∀ x : Sub (w.alloc (Obj.cells #[Value.bool (decide (n < 0)), Value.int IntKind.u64 ↑n.natAbs] 171)), x.w.cell? ⟨w.heap.size, 0, none⟩ = some (.bool (decide (n < 0))) := fun x => by rw [x.cell _ _ (by simp)]; simp
    have hc1 : ∀ x : Sub (w.alloc (Obj.cells #[Value.bool (decide (n < 0)), Value.int IntKind.u64 ↑n.natAbs] 171)), x.w.cell? ⟨w.heap.size, 1, none⟩ = some (.int .u64 n.natAbs) := fun x => by rw [x.cell _ _ (by simp)]; simp
    refine wp_region_sub (by kernel_rfl) (by kernel_rfl) ?_
    repeat (first | go_big_quiet_skip | (go_big_quiet_want; go_big_quiet_op; first | go_big_quiet_on | (refine ⟨_, fun _ => rfl, ?_⟩; go_big_quiet_on) | go_big_quiet_call (first | (go_at_call 146; refine calls_sub (numberFrom_of _ _ ?_); first | exact g1 | exact g2) | (go_at_call 145; exact calls_sub (order_of _ _ _)))))
    refine wpQuiet_nil ?_
    rintro _ ⟨x, rfl⟩
    go_wp2
    go_ret
    exact ⟨ret_bool (by first | exact win_f n lo hi c | exact win_t n lo hi (by omega)), ((Below.refl _ _).alloc (Nat.le_refl _) _).trans (x.h.mono (by simp))⟩
end Go.Proofs.YtahgnmbkobiclaaGreat
namespace Go.Proofs.YtahgnmbkobiclaaGreat
set_option linter.unusedVariables false
open Go.RowKit
section
variable {P : Program} {ops : Array Oper} {Q : Exit → Act → World → Prop} {md : Region.Mode} {S : World → Prop} {j : Nat}
/-- Whatever order is picked from here on, and S holds behind every operation as long as number j has not come up. -/
def wpAnyJ (P : Program) (md : Region.Mode) (ops : Array Oper) (Q : Exit → Act → World → Prop) (S : World → Prop) (j : Nat) : Nat → Array Bool → Act → World → Prop
  | 0, listed, a, w => Region.ready md ops listed = [] ∧ Q .normal a w
  | fuel + 1, listed, a, w =>
    (Region.ready md ops listed = [] → Q .normal a w) ∧
    ∀ i ∈ Region.ready md ops listed, wpOp P ops Q i (fun a' w' => ((listed.setIfInBounds i true).getD j true = false → S w') ∧ wpAnyJ P md ops Q S j fuel (listed.setIfInBounds i true) a' w') a w
theorem wpAny_of_J : ∀ (fuel : Nat) (listed : Array Bool) (a : Act) (w : World), wpAnyJ P md ops Q S j fuel listed a w → wpAny P md ops Q fuel listed a w
  | 0, _, _, _, h => h
  | fuel + 1, _, _, _, h => ⟨h.1, fun i hi => wpOp_mono (fun a' w' h' => wpAny_of_J fuel _ a' w' h'.2) (h.2 i hi)⟩
theorem wpAnyJ_first {i : Nat} {oi : Oper} {v : Value} (hi : ops[i]? = some oi) (hsel : ∀ (j : Nat) (o : Oper) cs b, ops[j]? = some o → o.op ≠ .select cs b)
    (hQ : ∀ c a w, Q (.panic c) (a.put oi.dst v) w → Q (.panic c) a w) (hij : j ≠ i) (hj : ∀ oj, ops[j]? = some oj → ∃ e ∈ oj.after, Region.binds md e = true ∧ e.on = i) :
    ∀ (fuel : Nat) (listed : Array Bool) (a : Act) (w : World),
      (∀ k ok, ops[k]? = some ok → k ≠ i → listed.getD k true = false → (∀ e ∈ ok.after, Region.binds md e = true → e.on ≠ i) → oi.apart ops ok = true) →
      i ∈ Region.ready md ops listed → YieldsIf P ops S oi v a → listed.getD j true = false → S w →
      wpAnyJ P md ops Q S j fuel (listed.setIfInBounds i true) (a.put oi.dst v) w → wpAnyJ P md ops Q S j (fuel + 1) listed a w := by
  intro fuel
  induction fuel with
  | zero =>
    intro listed a w _ hr hy hu hS H
    refine ⟨fun h => (by rw [h] at hr; cases hr), fun k hk => ?_⟩
    by_cases hki : k = i
    · subst hki; exact hy.wpOp hi hS ⟨fun _ => hS, H⟩
    · have := ready_mono hk hki
      rw [H.1] at this
      cases this
  | succ fuel ih =>
    intro listed a w hfree hr hy hu hS H
    refine ⟨fun h => (by rw [h] at hr; cases hr), fun k hk => ?_⟩
    by_cases hki : k = i
    · subst hki; exact hy.wpOp hi hS ⟨fun _ => hS, H⟩
    · have h1 := H.2 k (ready_mono hk hki)
      obtain ⟨hjun, ok, hok, hall⟩ := mem_ready.1 hk
      have notI : ∀ e ∈ ok.after, Region.binds md e = true → e.on ≠ i := fun e he hb heq => by
        have h1 := hall e he hb
        have h0 := (mem_ready.1 hr).1
        rw [heq] at h1
        rcases Nat.lt_or_ge i listed.size with h' | h'
        · simp [h'] at h0 h1; rw [h0] at h1; cases h1
        · simp [Array.getElem?_eq_none h'] at h1
      have hkj : k ≠ j := fun e => by
        subst e
        obtain ⟨e, he, hb, ho⟩ := hj ok hok
        exact notI e he hb ho
      have h2 := wpOp_putIf hok (hfree k ok hok hki hjun notI) (fun cs b => hsel i oi cs b hi) (fun cs b => hsel k ok cs b hok) hQ hy h1
      have hu' : (listed.setIfInBounds k true).getD j true = false := by rw [getD_set_ne true hkj]; exact hu
      have hfree' : ∀ k' ok', ops[k']? = some ok' → k' ≠ i → (listed.setIfInBounds k true).getD k' true = false →
          (∀ e ∈ ok'.after, Region.binds md e = true → e.on ≠ i) → oi.apart ops ok' = true := fun k' ok' hk' hki' hun hno => by
        refine hfree k' ok' hk' hki' ?_ hno
        by_cases hjk : k = k'
        · subst hjk; exact hjun
        · rw [getD_set_ne true hjk] at hun; exact hun
      refine wpOp_mono (fun a' w' h3 => ?_) h2
      have hS' : S w' := h3.2.1 (by rw [getD_set_ne true hkj, getD_set_ne true (Ne.symm hij)]; exact hu)
      refine ⟨fun _ => hS', ih (listed.setIfInBounds k true) a' w' hfree' (ready_mono hr (Ne.symm hki)) h3.1 hu' hS' ?_⟩
      rw [Array.setIfInBounds_comm _ _ hki]
      exact h3.2.2
/-- Does number j wait for number i? -/
def waitsB (md : Region.Mode) (ops : Array Oper) (j i : Nat) : Bool := match ops[j]? with
  | some oj => oj.after.any fun e => Region.binds md e && e.on == i
  | none => true
theorem waitsB_spec {i : Nat} (h : waitsB md ops j i = true) : ∀ oj, ops[j]? = some oj → ∃ e ∈ oj.after, Region.binds md e = true ∧ e.on = i := by
  intro oj ho
  unfold waitsB at h
  rw [ho] at h
  simp only [Array.any_eq_true', Bool.and_eq_true, beq_iff_eq] at h
  obtain ⟨e, he, hb, hn⟩ := h
  exact ⟨e, he, hb, hn⟩
theorem wpAnyJ_take {i : Nat} {oi : Oper} {v : Value} {fuel : Nat} {listed : Array Bool} {a : Act} {w : World} (hi : ops[i]? = some oi)
    (hs : Region.noSelect ops = true) (hf : Region.free md ops listed i = true) (hr : (Region.ready md ops listed).contains i = true)
    (hij : (j != i && waitsB md ops j i && !(listed.getD j true)) = true)
    (hQ : ∀ c a w, Q (.panic c) (a.put oi.dst v) w → Q (.panic c) a w) (hy : YieldsIf P ops S oi v a) (hS : S w)
    (h : wpAnyJ P md ops Q S j fuel (listed.setIfInBounds i true) (a.put oi.dst v) w) : wpAnyJ P md ops Q S j (fuel + 1) listed a w := by
  simp only [Bool.and_eq_true, bne_iff_ne, ne_eq, Bool.not_eq_true'] at hij
  exact wpAnyJ_first hi (Region.noSelect_spec hs) hQ hij.1.1 (waitsB_spec hij.1.2) fuel listed a w (Region.free_spec hi hf) (by simpa using hr) hy hij.2 hS h
/-- Just one may come up. -/
theorem wpAnyJ_one {i : Nat} {o : Oper} {fuel : Nat} {listed : Array Bool} {a : Act} {w : World} (hr : Region.ready md ops listed = [i]) (ho : ops[i]? = some o)
    (h : ∀ K' : Act → World → Prop, Shut (∀ a w, ((listed.setIfInBounds i true).getD j true = false → S w) → wpAnyJ P md ops Q S j fuel (listed.setIfInBounds i true) a w → K' a w) → if Region.wanted o (yielded ops a.tmps) = true then Oper.wp P o a w K' Q else K' (a.put o.dst undef) w) :
    wpAnyJ P md ops Q S j (fuel + 1) listed a w :=
  ⟨fun h0 => absurd (hr ▸ h0) (by simp), fun k hk => by
    rw [hr] at hk
    obtain rfl := List.mem_singleton.1 hk
    exact wpOp_step ho (fun K' hK => h K' (fun a w hS hW => hK a w ⟨hS, hW⟩))⟩
theorem wpAnyJ_done {listed : Array Bool} {a : Act} {w : World} (hr : Region.ready md ops listed = []) (h : Q .normal a w) : ∀ fuel, wpAnyJ P md ops Q S j fuel listed a w
  | 0 => ⟨hr, h⟩
  | _ + 1 => ⟨fun _ => h, by rw [hr]; simp⟩
theorem wp_region_J (j : Nat) (S : World → Prop) {id : Nat} {a : Act} {w : World} (hm : P.follows .mixedOrders = true) (hS : S w.drew)
    (h : S w.drew → wpAnyJ P .any ops Q S j ops.size (Array.replicate ops.size false) a w.drew) : (Code.region id ops true).wp P Q a w :=
  wp_region_any hm (wpAny_of_J _ _ _ _ (h hS))
end
end Go.Proofs.YtahgnmbkobiclaaGreat
namespace Go.Proofs.YtahgnmbkobiclaaGreat
set_option linter.unusedVariables false
open Go.RowKit
theorem mk_cells (w : World) (L : List Value) (t : TypeId) (j : Nat) (u : Value) (h : L[j]? = some u) : (w.alloc (.cells L.toArray t)).cell? ((⟨w.heap.size, 0, none⟩ : Addr).add j) = some u := by
  have e : (⟨w.heap.size, 0, none⟩ : Addr).add j = ⟨w.heap.size, j, none⟩ := by unfold Addr.add; split <;> simp_all
  rw [e]
  have q := heap_alloc_last w (.cells L.toArray t)
  unfold World.cell?
  simp only [q]
  simpa using h
end Go.Proofs.YtahgnmbkobiclaaGreat
