/- What the document's comparisons of two values of one kind come to; no statement of the seat is proved here. -/
import Derived.Test.YtmcmpgnkjjcocaaCmpA
namespace Go.Proofs.Ytmcmpgnkjjcocaa
set_option linter.unusedVariables false
open Go.RowKit
theorem cmp_l (x y : Int) : decide (cmpI x y < 0) = decide (x < y) := by unfold cmpI; rw [Bool.eq_iff_iff]; (repeat' split) <;> simp <;> omega
theorem cmp_e (x y : Int) : (cmpI x y == 0) = (x == y) := by unfold cmpI; rw [Bool.eq_iff_iff]; (repeat' split) <;> simp <;> omega
theorem cmp_m (x y : Int) : decide (0 < cmpI x y) = decide (y < x) := by unfold cmpI; rw [Bool.eq_iff_iff]; (repeat' split) <;> simp <;> omega
section
variable (b c : Int) (s t : ByteArray) (w : World)
set_option maxHeartbeats 1000000 in
theorem orderR_s : Calls Try.prog 43 #[V 19 b s, V 19 c t] w fun e w' => e = .returned (.tuple #[.bool (cL 19 b c s t), .bool (cE 19 b c s t), .bool (cM 19 b c s t)]) ∧ Below w.heap.size w w' := by
  have e1 : cL 19 b c s t = Op.bytesLess s.toList t.toList := by simp [cL]
  have e2 : cE 19 b c s t = (s.toList == t.toList) := by simp [cE]
  have e3 : cM 19 b c s t = (!Op.bytesLess s.toList t.toList && !(s.toList == t.toList)) := by simp [cM]
  rw [e1, e2, e3]
  clear e1 e2 e3
  go_enter Try.func43, Try.ntmps43
  go_wp2
  go_quiet (fail)
  go_wp2
  go_ret3
  exact ⟨rfl, bdN (((Below.refl _ _).alloc (Nat.le_refl _) _).alloc (by simp) _) _⟩
set_option maxHeartbeats 1000000 in
theorem orderR_f : Calls Try.prog 43 #[V 18 b s, V 18 c t] w fun e w' => e = .returned (.tuple #[.bool (cL 18 b c s t), .bool (cE 18 b c s t), .bool (cM 18 b c s t)]) ∧ Below w.heap.size w w' := by
  have hx := call_frombits
  have e1 : cL 18 b c s t = (FloatKind.f64.format.order b.toNat c.toNat == some .lt) := by simp [cL]
  have e2 : cE 18 b c s t = (FloatKind.f64.format.order b.toNat c.toNat == some .eq) := by simp [cE]
  have e3 : cM 18 b c s t = (FloatKind.f64.format.order b.toNat c.toNat == some .gt) := by simp [cM]
  rw [e1, e2, e3]
  clear e1 e2 e3
  go_enter Try.func43, Try.ntmps43
  go_wp2
  go_quiet (fail)
  go_wp2
  go_ret3
  exact ⟨rfl, bdN (((Below.refl _ _).alloc (Nat.le_refl _) _).alloc (by simp) _) _⟩
set_option maxHeartbeats 1000000 in
theorem orderR_i1 (k : Int) (k1 : 2 ≤ k) (k2 : k ≤ 5) : Calls Try.prog 43 #[V k b s, V k c t] w fun e w' => e = .returned (.tuple #[.bool (decide (wrap64 b < wrap64 c)), .bool (wrap64 b == wrap64 c), .bool (decide (wrap64 c < wrap64 b))]) ∧ Below w.heap.size w w' := by
  have k19 : (k == 19) = false := by simp; omega
  have k18 : (k == 18) = false := by simp; omega
  go_enter Try.func43, Try.ntmps43
  go_wp2
  try (go_quiet (fail); go_wp2)
  go_ret3
  exact ⟨rfl, by first | exact bdN (((Below.refl _ _).alloc (Nat.le_refl _) _).alloc (by simp) _) _ | exact ((Below.refl _ _).alloc (Nat.le_refl _) _).alloc (by simp) _⟩
set_option maxHeartbeats 1000000 in
theorem orderR_i2 : Calls Try.prog 43 #[V 14 b s, V 14 c t] w fun e w' => e = .returned (.tuple #[.bool (decide (wrap64 b < wrap64 c)), .bool (wrap64 b == wrap64 c), .bool (decide (wrap64 c < wrap64 b))]) ∧ Below w.heap.size w w' := by
  go_enter Try.func43, Try.ntmps43
  go_wp2
  try (go_quiet (fail); go_wp2)
  go_ret3
  exact ⟨rfl, by first | exact bdN (((Below.refl _ _).alloc (Nat.le_refl _) _).alloc (by simp) _) _ | exact ((Below.refl _ _).alloc (Nat.le_refl _) _).alloc (by simp) _⟩
set_option maxHeartbeats 1000000 in
theorem orderR_u (k : Int) (kk : k < 2 ∨ 5 < k) (k14 : (k == 14) = false) (k19 : (k == 19) = false) (k18 : (k == 18) = false) : Calls Try.prog 43 #[V k b s, V k c t] w fun e w' => e = .returned (.tuple #[.bool (decide (b < c)), .bool (b == c), .bool (decide (c < b))]) ∧ Below w.heap.size w w' := by
  rcases kk with kk | kk
  all_goals
    go_enter Try.func43, Try.ntmps43
    go_wp2
    try (go_quiet (fail); go_wp2)
    go_ret3
    exact ⟨rfl, by first | exact bdN (((Below.refl _ _).alloc (Nat.le_refl _) _).alloc (by simp) _) _ | exact ((Below.refl _ _).alloc (Nat.le_refl _) _).alloc (by simp) _⟩
theorem orderR_of (k : Int) : Calls Try.prog 43 #[V k b s, V k c t] w fun e w' => e = .returned (.tuple #[.bool (cL k b c s t), .bool (cE k b c s t), .bool (cM k b c s t)]) ∧ Below w.heap.size w w' := by
  by_cases k1 : k = 19
  · subst k1; exact orderR_s b c s t w
  by_cases k2 : k = 18
  · subst k2; exact orderR_f b c s t w
  have e1 : cL k b c s t = decide (num k b < num k c) := by simp only [cL, k1, k2, if_false, cmp_l]
  have e2 : cE k b c s t = (num k b == num k c) := by simp only [cE, k1, k2, if_false, cmp_e]
  have e3 : cM k b c s t = decide (num k c < num k b) := by simp only [cM, k1, k2, if_false, cmp_m]
  rw [e1, e2, e3]
  by_cases d : 2 ≤ k ∧ k ≤ 5
  · rw [num_s (.inl d), num_s (.inl d)]; exact orderR_i1 b c s t w k d.1 d.2
  by_cases e : k = 14
  · subst e; rw [num_s (.inr rfl), num_s (.inr rfl)]; exact orderR_i2 b c s t w
  · rw [num_u (by omega), num_u (by omega)]; exact orderR_u b c s t w k (by omega) (by simpa using e) (by simpa using k1) (by simpa using k2)
set_option maxHeartbeats 400000 in
theorem BoolR_of (p : Bool) (w : World) : Calls Try.prog 44 #[.bool p] w fun e w' => e = .returned (V 1 (tb p) E0) ∧ Below w.heap.size w w' := by
  cases p
  · go_enter Try.func44, Try.ntmps44
    go_wp2
    exact bodyPost_ret (v := V 1 0 E0) (by simp [results, Try.results44, go_sem]) rfl ⟨rfl, (Below.refl _ _).alloc (Nat.le_refl _) _⟩
  · go_enter Try.func44, Try.ntmps44
    go_wp2
    exact bodyPost_ret (v := V 1 1 E0) (by simp [results, Try.results44, go_sem]) rfl ⟨rfl, (Below.refl _ _).alloc (Nat.le_refl _) _⟩
theorem step_ab1 {w w1 : World} {x y z : Obj} (hb : Below (((w.alloc x).alloc y).alloc z).heap.size (((w.alloc x).alloc y).alloc z) w1) :
    Below w.heap.size w w1 ∧ w.heap.size + 1 + 1 < w1.heap.size := by
  refine ⟨((((Below.refl _ _).alloc (Nat.le_refl _) _).alloc (by simp) _).alloc (by simp; omega) _).trans (hb.mono (by simp; omega)), ?_⟩
  have := hb.size
  simp at this
  omega
set_option maxHeartbeats 1000000 in
theorem compareR_one (op k : Int) (p : Bool) (ho : op = 9 ∧ p = cE k b c s t ∨ op = 10 ∧ p = (!cE k b c s t) ∨ op = 11 ∧ p = cL k b c s t ∨ op = 13 ∧ p = cM k b c s t) : Calls Try.prog 20 #[.int .i64 op, V k b s, V k c t] w fun e w' => e = .returned (V 1 (tb p) E0) ∧ Below w.heap.size w w' := by
  have C : Hid _ := orderR_of b c s t
  rcases ho with ⟨rfl, rfl⟩ | ⟨rfl, rfl⟩ | ⟨rfl, rfl⟩ | ⟨rfl, rfl⟩
  all_goals
    go_enter Try.func20, Try.ntmps20
    go_wp2_with (first | (go_at_call 43; refine (C.out _ k).mono ?_; rintro e w1 ⟨rfl, hb⟩; obtain ⟨c1, f1⟩ := bcell hb; obtain ⟨B1, z1⟩ := step_ab1 hb) | (go_at_call 44; refine (BoolR_of _ _).mono ?_; rintro e w2 ⟨rfl, hb2⟩; obtain ⟨x2, m0, m1, m2, m3⟩ := step3 hb2 z1))
    have B2 := B1.trans (hb2.mono (by omega))
    refine bodyPost_ret (v := V 1 (tb _) E0) (by simp [results, Try.results20, go_sem, m2, c1]) rfl ⟨rfl, ?_⟩
    go_grown
set_option maxHeartbeats 1000000 in
theorem compareR_or (op k : Int) (l : Bool) (ho : op = 12 ∧ cL k b c s t = l ∨ op = 14 ∧ cM k b c s t = l) : Calls Try.prog 20 #[.int .i64 op, V k b s, V k c t] w fun e w' => e = .returned (V 1 (tb (l || cE k b c s t)) E0) ∧ Below w.heap.size w w' := by
  have C : Hid _ := orderR_of b c s t
  cases l <;> rcases ho with ⟨rfl, h⟩ | ⟨rfl, h⟩
  all_goals
    simp only [Bool.false_or, Bool.true_or]
    go_enter Try.func20, Try.ntmps20
    go_wp2_with (first | (go_at_call 43; refine (C.out _ k).mono ?_; rintro e w1 ⟨rfl, hb⟩; obtain ⟨c1, f1⟩ := bcell hb; obtain ⟨B1, z1⟩ := step_ab1 hb) | (go_at_call 44; refine (BoolR_of _ _).mono ?_; rintro e w2 ⟨rfl, hb2⟩; obtain ⟨x2, m0, m1, m2, m3⟩ := step3 hb2 z1))
    have B2 := B1.trans (hb2.mono (by omega))
    refine bodyPost_ret (v := V 1 (tb _) E0) (by simp [results, Try.results20, go_sem, m2, c1]) rfl ⟨rfl, ?_⟩
    go_grown
theorem compareR_of (op k : Int) (ho : 9 ≤ op ∧ op ≤ 14) : Calls Try.prog 20 #[.int .i64 op, V k b s, V k c t] w fun e w' => e = .returned (V 1 (tb (hB op k b c s t)) E0) ∧ Below w.heap.size w w' := by
  have : op = 9 ∨ op = 10 ∨ op = 11 ∨ op = 12 ∨ op = 13 ∨ op = 14 := by omega
  rcases this with rfl | rfl | rfl | rfl | rfl | rfl
  · exact compareR_one b c s t w 9 k _ (.inl ⟨rfl, by simp [hB]⟩)
  · exact compareR_one b c s t w 10 k _ (.inr (.inl ⟨rfl, by simp [hB]⟩))
  · exact compareR_one b c s t w 11 k _ (.inr (.inr (.inl ⟨rfl, by simp [hB]⟩)))
  · have : hB 12 k b c s t = (cL k b c s t || cE k b c s t) := by simp [hB]
    rw [this]; exact compareR_or b c s t w 12 k _ (.inl ⟨rfl, rfl⟩)
  · exact compareR_one b c s t w 13 k _ (.inr (.inr (.inr ⟨rfl, by simp [hB]⟩)))
  · have : hB 14 k b c s t = (cM k b c s t || cE k b c s t) := by simp [hB]
    rw [this]; exact compareR_or b c s t w 14 k _ (.inr ⟨rfl, rfl⟩)
end
end Go.Proofs.Ytmcmpgnkjjcocaa
