/- A code copied; codes in a row copied; no statement of the seat is proved here. -/
import Derived.Test.YtkickdmomompjaaGreatMayAK
import Derived.BigQuiet
import Derived.Test.YtkickdmomompjaaGreatKoA2
import Derived.Test.YtkickdmomompjaaGreatKoA1
import Derived.Deep.DeepCutAuto
namespace Go.Proofs.YtkickdmomompjaaGreat
set_option linter.unusedVariables false
open Go.RowKit
theorem sgr_t (h m b : Int) (h0 : 0 ≤ b) (h1 : b < 18446744073709551616) (g0 : 0 < h) (g1 : h ≤ 9223372036854775808) (e : m + 1 = h) (c : -h ≤ wrap64 b) : decide (wrap64 b ≤ m) = sg h b := by
  rw [Bool.eq_iff_iff]; simp only [decide_eq_true_eq, sg]; unfold wrap64 at *; omega
theorem sgr_f (h b : Int) (h0 : 0 ≤ b) (h1 : b < 18446744073709551616) (g0 : 0 < h) (g1 : h ≤ 9223372036854775808) (c : wrap64 b < -h) : false = sg h b := by
  symm; simp only [decide_eq_false_iff_not, sg]; unfold wrap64 at *; omega
theorem ttr_t (h b : Int) (h0 : 0 ≤ b) (h1 : b < 18446744073709551616) (g1 : h ≤ 9223372036854775808) (c : 0 ≤ wrap64 b) : decide (wrap64 b < h) = decide (b < h) := by
  rw [Bool.eq_iff_iff]; simp only [decide_eq_true_eq]; unfold wrap64 at *; omega
theorem ttr_f (h b : Int) (h0 : 0 ≤ b) (h1 : b < 18446744073709551616) (g1 : h ≤ 9223372036854775808) (c : wrap64 b < 0) : false = decide (b < h) := by
  symm; simp only [decide_eq_false_iff_not]; unfold wrap64 at *; omega
theorem t15a (b : Int) (h0 : 0 ≤ b) (h1 : b < 18446744073709551616) (c : 0 ≤ wrap64 b) (d : wrap64 b < 7258118400000000000) : (wrap64 b % 86400000000000 == 0) = mayW 15 b := by
  have e : wrap64 b = b := by unfold wrap64 at *; omega
  rw [e] at d ⊢
  exact (mw15t b d).symm
theorem t15b (b : Int) (h0 : 0 ≤ b) (h1 : b < 18446744073709551616) (c : 0 ≤ wrap64 b) (d : 7258118400000000000 ≤ wrap64 b) : false = mayW 15 b :=
  (mw15f b (by unfold wrap64 at *; omega)).symm
theorem t15c (b : Int) (h0 : 0 ≤ b) (h1 : b < 18446744073709551616) (c : wrap64 b < 0) : false = mayW 15 b :=
  (mw15f b (by unfold wrap64 at *; omega)).symm
end Go.Proofs.YtkickdmomompjaaGreat
namespace Go.Proofs.YtkickdmomompjaaGreat
set_option linter.unusedVariables false
open Go.RowKit
/-- May a value be? -/
def may3 (k b : Int) (s : ByteArray) : Bool :=
  if k = 19 then decide (b = 0 ∧ s.size ≤ 254) else decide (s.toList = []) && mayW k b
abbrev V (k b : Int) (s : ByteArray) : Value := .agg #[.int .u8 k, .int .u64 b, .string s]
theorem m3s (b : Int) (s : ByteArray) (h : b = 0) : decide ((s.size : Int) ≤ 254) = may3 19 b s := by
  subst h; rw [Bool.eq_iff_iff]; simp [may3]; omega
theorem m3n (b : Int) (s : ByteArray) (h : ¬ b = 0) : false = may3 19 b s := by simp [may3, h]
theorem m3e (k b : Int) (s : ByteArray) (c : ¬ k = 19) (h : s.toList = []) : mayW k b = may3 k b s := by simp [may3, h, c]
theorem m3f (k b : Int) (s : ByteArray) (c : ¬ k = 19) (h : ¬ s.toList = []) : false = may3 k b s := by simp [may3, h, c]
set_option maxHeartbeats 400000 in
theorem May_of (k b : Int) (s : ByteArray) (w : World) (h0 : 0 ≤ b) (h1 : b < 18446744073709551616) (hk : 0 ≤ k ∧ k < 256) (hs : s.size ≤ maxLen) :
    Calls Tryz.prog 83 #[V k b s] w fun e w' => e = .returned (.bool (may3 k b s)) ∧ Below w.heap.size w w' := by
  unfold maxLen at hs
  by_cases c : k = 19
  · subst c
    go_enter Tryz.func83, Tryz.ntmps83
    go_wp2
    all_goals
      go_ret
      refine ⟨ret_bool ?_, (Below.refl _ _).alloc (Nat.le_refl _) _⟩
      first | exact m3s b s ‹_› | exact m3n b s ‹_›
  · go_enter Tryz.func83, Tryz.ntmps83
    go_wp2_with (go_at_call 101; refine (mayBits_of _ _ _ h0 h1 hk).mono ?_; rintro e w' ⟨rfl, rfl⟩)
    all_goals
      go_ret
      refine ⟨ret_bool ?_, (Below.refl _ _).alloc (Nat.le_refl _) _⟩
      first | exact m3e k b s c ‹_› | exact m3f k b s c ‹_›
end Go.Proofs.YtkickdmomompjaaGreat
namespace Go.Proofs.YtkickdmomompjaaGreat
set_option linter.unusedVariables false
open Go.RowKit
/-- A whole number as the program holds it: is it below 0, and its size. -/
abbrev NB (n : Int) : Value := .agg #[.bool (decide (n < 0)), .int .u64 n.natAbs]
theorem NB_neg (n : Int) (h : n < 0) (g : -9223372036854775808 ≤ n) : Ending.returned (.agg #[.bool true, .int .u64 (IntKind.u64.wrap (-IntKind.u64.wrap n))]) = .returned (NB n) := by
  have e : IntKind.u64.wrap (-IntKind.u64.wrap n) = n.natAbs := by rw [IntKind.wrap_u64, IntKind.wrap_u64]; omega
  rw [e]; simp [NB, h]
theorem NB_pos (n : Int) (h : 0 ≤ n) : Ending.returned (.agg #[.bool false, .int .u64 n]) = .returned (NB n) := by
  have e : (n.natAbs : Int) = n := by omega
  have c : ¬ n < 0 := by omega
  simp [NB, c, e]
set_option maxHeartbeats 400000 in
theorem numberFrom_of (n : Int) (w : World) (g : -9223372036854775808 ≤ n ∧ n < 9223372036854775808) :
    Calls Tryz.prog 103 #[.int .i64 n] w fun e w' => e = .returned (NB n) ∧ Below w.heap.size w w' := by
  by_cases c : n < 0
  · go_enter Tryz.func103, Tryz.ntmps103
    go_wp2
    exact bodyPost_ret (v := .agg #[.bool true, .int .u64 (IntKind.u64.wrap (-IntKind.u64.wrap n))]) (by simp [results, Tryz.results103, go_sem]) rfl ⟨NB_neg n c g.1, (Below.refl _ _).alloc (Nat.le_refl _) _⟩
  · go_enter Tryz.func103, Tryz.ntmps103
    go_wp2
    exact bodyPost_ret (v := .agg #[.bool false, .int .u64 n]) (by simp [results, Tryz.results103, go_sem]) rfl ⟨NB_pos n (by omega), (Below.refl _ _).alloc (Nat.le_refl _) _⟩
def cmpI (a b : Int) : Int := if a < b then -1 else if b < a then 1 else 0
theorem cmpI_lt {a b : Int} (h : a < b) : -1 = cmpI a b := by unfold cmpI; rw [if_pos h]
theorem cmpI_gt {a b : Int} (h : b < a) : 1 = cmpI a b := by unfold cmpI; rw [if_neg (by omega), if_pos h]
theorem cmpI_eq {a b : Int} (h : ¬ a < b) (g : ¬ b < a) : 0 = cmpI a b := by unfold cmpI; rw [if_neg h, if_neg g]
set_option maxHeartbeats 400000 in
theorem Compare_of (a b : Int) (w : World) :
    Calls Tryz.prog 111 #[.int .u64 a, .int .u64 b] w fun e w' => e = .returned (.int .i64 (cmpI a b)) ∧ w' = w := by
  by_cases c : a < b
  · have r := cmpI_lt c
    have R : Hid (-1 = cmpI a b) := r
    clear r
    go_enter Tryz.func111, Tryz.ntmps111
    go_wp2
    go_ret
    exact ⟨ret_int R.out, rfl⟩
  by_cases d : b < a
  · have R : Hid (1 = cmpI a b) := cmpI_gt d
    go_enter Tryz.func111, Tryz.ntmps111
    go_wp2
    go_ret
    exact ⟨ret_int R.out, rfl⟩
  · have R : Hid (0 = cmpI a b) := cmpI_eq c d
    go_enter Tryz.func111, Tryz.ntmps111
    go_wp2
    go_ret
    exact ⟨ret_int R.out, rfl⟩
/-- A value's number. -/
def num (k b : Int) : Int := if 2 ≤ k ∧ k ≤ 5 ∨ k = 14 then wrap64 b else b
theorem num_bd (k b : Int) (h0 : 0 ≤ b) (h1 : b < 18446744073709551616) : -9223372036854775808 ≤ num k b ∧ num k b < 18446744073709551616 := by
  unfold num wrap64; split <;> omega
theorem num_s {k b : Int} (h : 2 ≤ k ∧ k ≤ 5 ∨ k = 14) : num k b = wrap64 b := by unfold num; rw [if_pos h]
theorem num_u {k b : Int} (h : ¬ (2 ≤ k ∧ k ≤ 5 ∨ k = 14)) : num k b = b := by unfold num; rw [if_neg h]
theorem wrap64_bd (b : Int) : -9223372036854775808 ≤ wrap64 b ∧ wrap64 b < 9223372036854775808 := by unfold wrap64; omega
/-- Behind a call that only makes memory all old cells and marks read as before. -/
theorem bcell {W w1 : World} (hb : Below W.heap.size W w1) : (∀ b o, b < W.heap.size → w1.cell? ⟨b, o, none⟩ = W.cell? ⟨b, o, none⟩) ∧ (∀ b o, b < W.heap.size → w1.frozen? ⟨b, o, none⟩ = W.frozen? ⟨b, o, none⟩) :=
  ⟨fun b o h => hb.cell (p := ⟨b, o, none⟩) h, fun b o h => hb.frozen (p := ⟨b, o, none⟩) h⟩
/-- The end of a call that boxes one thing, makes another, calls, and stores into the second. -/
theorem below_two {w w1 : World} {x y : Obj} (hb : Below ((w.alloc x).alloc y).heap.size ((w.alloc x).alloc y) w1) {u v : Value} {i j : Nat} :
    Below w.heap.size w ((w1.setCell ⟨w.heap.size + 1, i, none⟩ u).setCell ⟨w.heap.size + 1, j, none⟩ v) :=
  (((((Below.refl _ _).alloc (Nat.le_refl _) _).alloc (by simp) _).trans (hb.mono (by simp; omega))).setCell (by simp) _).setCell (by simp) _
set_option maxHeartbeats 400000 in
theorem numberOf_s (k b : Int) (s : ByteArray) (w : World) (h0 : 0 ≤ b) (h1 : b < 18446744073709551616) (c1 : 2 ≤ k) (c2 : k ≤ 5) :
    Calls Tryz.prog 97 #[V k b s] w fun e w' => e = .returned (NB (num k b)) ∧ Below w.heap.size w w' := by
  rw [num_s (.inl ⟨c1, c2⟩)]
  go_enter Tryz.func97, Tryz.ntmps97
  go_wp2_with (first | (go_at_call 103; refine (numberFrom_of _ _ (wrap64_bd b)).mono ?_; rintro e w1 ⟨rfl, hb⟩; obtain ⟨hc, hf⟩ := bcell hb) | go_in)
  exact bodyPost_ret (v := NB (wrap64 b)) (by simp [results, Tryz.results97, go_sem, hc]) rfl ⟨rfl, below_two hb⟩
set_option maxHeartbeats 400000 in
theorem numberOf_t (b : Int) (s : ByteArray) (w : World) (h0 : 0 ≤ b) (h1 : b < 18446744073709551616) :
    Calls Tryz.prog 97 #[V 14 b s] w fun e w' => e = .returned (NB (num 14 b)) ∧ Below w.heap.size w w' := by
  rw [num_s (.inr rfl)]
  go_enter Tryz.func97, Tryz.ntmps97
  go_wp2_with (first | (go_at_call 103; refine (numberFrom_of _ _ (wrap64_bd b)).mono ?_; rintro e w1 ⟨rfl, hb⟩; obtain ⟨hc, hf⟩ := bcell hb) | go_in)
  exact bodyPost_ret (v := NB (wrap64 b)) (by simp [results, Tryz.results97, go_sem, hc]) rfl ⟨rfl, below_two hb⟩
set_option maxHeartbeats 400000 in
theorem numberOf_u1 (k b : Int) (s : ByteArray) (w : World) (h0 : 0 ≤ b) (h1 : b < 18446744073709551616) (c : k < 2) :
    Calls Tryz.prog 97 #[V k b s] w fun e w' => e = .returned (NB (num k b)) ∧ Below w.heap.size w w' := by
  rw [num_u (by omega)]
  have c14 : (k == 14) = false := by simp; omega
  go_enter Tryz.func97, Tryz.ntmps97
  go_wp2
  exact bodyPost_ret (v := .agg #[.bool false, .int .u64 b]) (by simp [results, Tryz.results97, go_sem]) rfl ⟨NB_pos b h0, ((Below.refl _ _).alloc (Nat.le_refl _) _).alloc (by simp) _⟩
set_option maxHeartbeats 400000 in
theorem numberOf_u2 (k b : Int) (s : ByteArray) (w : World) (h0 : 0 ≤ b) (h1 : b < 18446744073709551616) (c : 5 < k) (d : ¬ k = 14) :
    Calls Tryz.prog 97 #[V k b s] w fun e w' => e = .returned (NB (num k b)) ∧ Below w.heap.size w w' := by
  rw [num_u (by omega)]
  have c14 : (k == 14) = false := by simp; omega
  go_enter Tryz.func97, Tryz.ntmps97
  go_wp2
  exact bodyPost_ret (v := .agg #[.bool false, .int .u64 b]) (by simp [results, Tryz.results97, go_sem]) rfl ⟨NB_pos b h0, ((Below.refl _ _).alloc (Nat.le_refl _) _).alloc (by simp) _⟩
theorem numberOf_of (k b : Int) (s : ByteArray) (w : World) (h0 : 0 ≤ b) (h1 : b < 18446744073709551616) :
    Calls Tryz.prog 97 #[V k b s] w fun e w' => e = .returned (NB (num k b)) ∧ Below w.heap.size w w' := by
  by_cases a : k < 2
  · exact numberOf_u1 k b s w h0 h1 a
  by_cases c : k ≤ 5
  · exact numberOf_s k b s w h0 h1 (by omega) c
  by_cases d : k = 14
  · subst d; exact numberOf_t b s w h0 h1
  · exact numberOf_u2 k b s w h0 h1 (by omega) d
end Go.Proofs.YtkickdmomompjaaGreat
namespace Go.Proofs.YtkickdmomompjaaGreat
set_option linter.unusedVariables false
open Go.RowKit
theorem up_fr {a b G : Nat} {w v : World} (h : ∀ k, G + 1 ≤ k → k < b → v.heap[k]? = w.heap[k]?) (ha : G + 1 ≤ a) : FrS (Fresh a b) w v := fun q hq => World.cell?_of_block (h _ (Nat.le_trans ha hq.1) hq.2)
theorem up_sub {a b a' b' : Nat} (h1 : a' ≤ a) (h2 : b ≤ b') : ∀ g, Fresh a b g → Fresh a' b' g := fun _ q => ⟨Nat.le_trans h1 q.1, Nat.lt_of_lt_of_le q.2 h2⟩
theorem own_bel {w w' : World} {base : Nat} {e : TypeId} {size : Nat} {v : Value} {n : Nat} {xs : List Value} (h : w.ownsRow base e size v n xs) (hb : Below w.heap.size w w') : w'.ownsRow base e size v n xs :=
  h.kept (row := none) ⟨hb.os, hb.tape, hb.output, hb.size, fun k hk _ => hb.block k hk⟩ (by cases v.ownBlock <;> simp)
theorem mk_cells (w : World) (L : List Value) (t : TypeId) (j : Nat) (u : Value) (h : L[j]? = some u) : (w.alloc (.cells L.toArray t)).cell? ((⟨w.heap.size, 0, none⟩ : Addr).add j) = some u := by
  have e : (⟨w.heap.size, 0, none⟩ : Addr).add j = ⟨w.heap.size, j, none⟩ := by unfold Addr.add; split <;> simp_all
  rw [e]
  have q := heap_alloc_last w (.cells L.toArray t)
  unfold World.cell?
  simp only [q]
  simpa using h
theorem fl_info : (Tryz.prog.info? 66).map (·.size) = some 8 := by kernel_rfl
theorem two_al (w2 : World) (X Y : Obj) : ((w2.alloc X).alloc Y).heap[w2.heap.size]? = some X ∧ ((w2.alloc X).alloc Y).heap[w2.heap.size + 1]? = some Y := by
  have q := heap_alloc_last (w2.alloc X) Y
  rw [show (w2.alloc X).heap.size = w2.heap.size + 1 by simp] at q
  exact ⟨(Below.heap_alloc _ _ _ (by simp)).trans (heap_alloc_last _ _), q⟩
end Go.Proofs.YtkickdmomompjaaGreat
