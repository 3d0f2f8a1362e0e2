/- What the value package's reckonNumbers answers; no statement of the seat is proved here. -/
import Derived.Test.YtpaibmganlaaeaaGreatDoorFz04
import Derived.Handy
import Derived.Deep.Light
import Derived.Deep.QuietTactic
import Derived.BigQuiet
import Derived.Laws.Externs
import Derived.Lib.Mul64
import Derived.Laws.Bits64b
import Derived.Deep.RegionHeld3
namespace Go.Proofs.YtpaibmganlaaeaaGreatDoor
set_option linter.unusedVariables false
open Go.RowKit
theorem bdN {B : Nat} {a w : World} (h : Below B a w) (n : Nat) : Below B a (w.drewN n) := ⟨h.os, h.tape, h.output, h.size, h.block⟩
abbrev ZC (u : TypeId) : Obj := .cells #[.int .u8 0, .int .u64 0, .string ⟨#[]⟩] u
theorem may_w {k b : Int} {s : ByteArray} (c : may3 k b s = true) (h : ¬ k = 19) : mayW k b = true ∧ s.toList = [] := by
  simp [may3, h] at c; exact ⟨c.2, c.1⟩
theorem text_nil {k b : Int} {s : ByteArray} (c : may3 k b s = true) (h : ¬ k = 19) : s = E0 := (toList_nil_iff_emptyBytes s).1 (may_w c h).2
/-- Two values' boxes and a result's, behind a first call. -/
theorem step_ab0 {w w1 : World} {k b k' c : Int} {s t : ByteArray} {u v x : TypeId}
    (hb : Below (((w.alloc (.cells #[.int .u8 k, .int .u64 b, .string s] u)).alloc (.cells #[.int .u8 k', .int .u64 c, .string t] v)).alloc (ZC x)).heap.size (((w.alloc (.cells #[.int .u8 k, .int .u64 b, .string s] u)).alloc (.cells #[.int .u8 k', .int .u64 c, .string t] v)).alloc (ZC x)) w1) :
    w.heap.size + 1 + 1 < w1.heap.size ∧ w1.cell? ⟨w.heap.size, 0, none⟩ = some (.int .u8 k) ∧ w1.cell? ⟨w.heap.size, 1, none⟩ = some (.int .u64 b) ∧ w1.cell? ⟨w.heap.size, 2, none⟩ = some (.string s) ∧
    w1.cell? ⟨w.heap.size + 1, 0, none⟩ = some (.int .u8 k') ∧ w1.cell? ⟨w.heap.size + 1, 1, none⟩ = some (.int .u64 c) ∧ w1.cell? ⟨w.heap.size + 1, 2, none⟩ = some (.string t) ∧
    w1.cell? ⟨w.heap.size + 1 + 1, 0, none⟩ = some (.int .u8 0) ∧ w1.cell? ⟨w.heap.size + 1 + 1, 1, none⟩ = some (.int .u64 0) ∧ w1.cell? ⟨w.heap.size + 1 + 1, 2, none⟩ = some (.string ⟨#[]⟩) ∧
    (∀ o, w1.frozen? ⟨w.heap.size + 1 + 1, o, none⟩ = false) ∧ Below w.heap.size w w1 := by
  have hs := hb.size
  simp only [World.size_alloc] at hs
  refine ⟨by omega, ?_, ?_, ?_, ?_, ?_, ?_, ?_, ?_, ?_, ?_, ((((Below.refl _ _).alloc (Nat.le_refl _) _).alloc (by simp) _).alloc (by simp; omega) _).trans (hb.mono (by simp; omega))⟩
  · rw [hb.cell (p := ⟨w.heap.size, 0, none⟩) (by simp; omega)]; simp [ZC, go_sem]
  · rw [hb.cell (p := ⟨w.heap.size, 1, none⟩) (by simp; omega)]; simp [ZC, go_sem]
  · rw [hb.cell (p := ⟨w.heap.size, 2, none⟩) (by simp; omega)]; simp [ZC, go_sem]
  · rw [hb.cell (p := ⟨w.heap.size + 1, 0, none⟩) (by simp)]; simp [ZC, go_sem]
  · rw [hb.cell (p := ⟨w.heap.size + 1, 1, none⟩) (by simp)]; simp [ZC, go_sem]
  · rw [hb.cell (p := ⟨w.heap.size + 1, 2, none⟩) (by simp)]; simp [ZC, go_sem]
  · rw [hb.cell (p := ⟨w.heap.size + 1 + 1, 0, none⟩) (by simp)]; simp [ZC, go_sem]
  · rw [hb.cell (p := ⟨w.heap.size + 1 + 1, 1, none⟩) (by simp)]; simp [ZC, go_sem]
  · rw [hb.cell (p := ⟨w.heap.size + 1 + 1, 2, none⟩) (by simp)]; simp [ZC, go_sem]
  · intro o
    rw [hb.frozen (p := ⟨w.heap.size + 1 + 1, o, none⟩) (by simp)]; simp [ZC, go_sem]
/-- What a call that only makes memory leaves of three old blocks. -/
theorem step3 {W w2 : World} {h : Nat} (hb : Below W.heap.size W w2) (z : h + 1 + 1 < W.heap.size) :
    h + 1 + 1 < w2.heap.size ∧ (∀ o, w2.cell? ⟨h, o, none⟩ = W.cell? ⟨h, o, none⟩) ∧ (∀ o, w2.cell? ⟨h + 1, o, none⟩ = W.cell? ⟨h + 1, o, none⟩) ∧ (∀ o, w2.cell? ⟨h + 1 + 1, o, none⟩ = W.cell? ⟨h + 1 + 1, o, none⟩) ∧ (∀ o, w2.frozen? ⟨h + 1 + 1, o, none⟩ = W.frozen? ⟨h + 1 + 1, o, none⟩) :=
  ⟨Nat.lt_of_lt_of_le z hb.size, fun o => hb.cell (p := ⟨h, o, none⟩) (by show h < _; omega), fun o => hb.cell (p := ⟨h + 1, o, none⟩) (by show h + 1 < _; omega), fun o => hb.cell (p := ⟨h + 1 + 1, o, none⟩) z, fun o => hb.frozen (p := ⟨h + 1 + 1, o, none⟩) z⟩
/-- Is a value below another one of its kind; is it that one; is it above? -/
def cL (k b c : Int) (s t : ByteArray) : Bool := if k = 19 then Op.bytesLess s.toList t.toList else if k = 18 then FloatKind.f64.format.order b.toNat c.toNat == some .lt else decide (cmpI (num k b) (num k c) < 0)
def cE (k b c : Int) (s t : ByteArray) : Bool := if k = 19 then s.toList == t.toList else if k = 18 then FloatKind.f64.format.order b.toNat c.toNat == some .eq else (cmpI (num k b) (num k c) == 0)
def cM (k b c : Int) (s t : ByteArray) : Bool := if k = 19 then !Op.bytesLess s.toList t.toList && !(s.toList == t.toList) else if k = 18 then FloatKind.f64.format.order b.toNat c.toNat == some .gt else decide (0 < cmpI (num k b) (num k c))
section
variable (b c : Int) (s t : ByteArray) (w : World)
set_option maxHeartbeats 1000000 in
theorem compared_s : Calls Tryz.prog 156 #[V 19 b s, V 19 c t] w fun e w' => e = .returned (.tuple #[.bool (cL 19 b c s t), .bool (cE 19 b c s t), .bool (cM 19 b c s t)]) ∧ Below w.heap.size w w' := by
  have e1 : cL 19 b c s t = Op.bytesLess s.toList t.toList := by simp [cL]
  have e2 : cE 19 b c s t = (s.toList == t.toList) := by simp [cE]
  have e3 : cM 19 b c s t = (!Op.bytesLess s.toList t.toList && !(s.toList == t.toList)) := by simp [cM]
  rw [e1, e2, e3]
  clear e1 e2 e3
  go_enter Tryz.func156, Tryz.ntmps156
  go_wp2
  go_quiet (fail)
  go_wp2
  go_ret3
  exact ⟨rfl, bdN (((Below.refl _ _).alloc (Nat.le_refl _) _).alloc (by simp) _) _⟩
set_option maxHeartbeats 1000000 in
theorem compared_f : Calls Tryz.prog 156 #[V 18 b s, V 18 c t] w fun e w' => e = .returned (.tuple #[.bool (cL 18 b c s t), .bool (cE 18 b c s t), .bool (cM 18 b c s t)]) ∧ Below w.heap.size w w' := by
  have hx := call_frombits
  have e1 : cL 18 b c s t = (FloatKind.f64.format.order b.toNat c.toNat == some .lt) := by simp [cL]
  have e2 : cE 18 b c s t = (FloatKind.f64.format.order b.toNat c.toNat == some .eq) := by simp [cE]
  have e3 : cM 18 b c s t = (FloatKind.f64.format.order b.toNat c.toNat == some .gt) := by simp [cM]
  rw [e1, e2, e3]
  clear e1 e2 e3
  go_enter Tryz.func156, Tryz.ntmps156
  go_wp2
  go_quiet (fail)
  go_wp2
  go_ret3
  exact ⟨rfl, bdN (((Below.refl _ _).alloc (Nat.le_refl _) _).alloc (by simp) _) _⟩
set_option maxHeartbeats 1000000 in
theorem compared_n (k : Int) (h0 : 0 ≤ b) (h1 : b < 18446744073709551616) (g0 : 0 ≤ c) (g1 : c < 18446744073709551616) (k1 : (k == 19) = false) (k2 : (k == 18) = false) : Calls Tryz.prog 156 #[V k b s, V k c t] w fun e w' => e = .returned (.tuple #[.bool (cL k b c s t), .bool (cE k b c s t), .bool (cM k b c s t)]) ∧ Below w.heap.size w w' := by
  have n1 : ¬ k = 19 := by simpa using k1
  have n2 : ¬ k = 18 := by simpa using k2
  have e1 : cL k b c s t = decide (cmpI (num k b) (num k c) < 0) := by simp [cL, n1, n2]
  have e2 : cE k b c s t = (cmpI (num k b) (num k c) == 0) := by simp [cE, n1, n2]
  have e3 : cM k b c s t = decide (0 < cmpI (num k b) (num k c)) := by simp [cM, n1, n2]
  rw [e1, e2, e3]
  clear e1 e2 e3 n1 n2
  go_enter Tryz.func156, Tryz.ntmps156
  go_wp2
  refine wp_region_sub2 (by kernel_rfl) (by kernel_rfl) ?_
  intro cx
  repeat (first | go_big_quiet_skip | (go_big_quiet_want; go_big_quiet_op; first | go_big_quiet_on | (refine ⟨_, fun _ => rfl, ?_⟩; go_big_quiet_on) | go_big_quiet_call (first | (go_at_call 129; refine calls_sub (numberOf_of _ _ _ _ ?_ ?_) <;> assumption) | (go_at_call 178; exact calls_sub (order_of _ _ _)))))
  refine wpQuiet_nil ?_
  rintro _ ⟨x, rfl⟩
  go_wp2
  go_ret3
  exact ⟨rfl, (((Below.refl _ _).alloc (Nat.le_refl _) _).alloc (by simp) _).trans (x.h.mono (by simp; omega))⟩
theorem compared_of (k : Int) (h0 : 0 ≤ b) (h1 : b < 18446744073709551616) (g0 : 0 ≤ c) (g1 : c < 18446744073709551616) : Calls Tryz.prog 156 #[V k b s, V k c t] w fun e w' => e = .returned (.tuple #[.bool (cL k b c s t), .bool (cE k b c s t), .bool (cM k b c s t)]) ∧ Below w.heap.size w w' := by
  by_cases k1 : k = 19
  · subst k1; exact compared_s b c s t w
  by_cases k2 : k = 18
  · subst k2; exact compared_f b c s t w
  exact compared_n b c s t w k h0 h1 g0 g1 (by simpa using k1) (by simpa using k2)
/-- What a comparison says. -/
def hB (op k b c : Int) (s t : ByteArray) : Bool := if op = 9 then cE k b c s t else if op = 10 then !cE k b c s t else if op = 11 then cL k b c s t else if op = 12 then cL k b c s t || cE k b c s t else if op = 13 then cM k b c s t else cM k b c s t || cE k b c s t
set_option maxHeartbeats 2000000 in
theorem holds_of (op k : Int) (ho : 9 ≤ op ∧ op ≤ 14) (h0 : 0 ≤ b) (h1 : b < 18446744073709551616) (g0 : 0 ≤ c) (g1 : c < 18446744073709551616) : Calls Tryz.prog 123 #[.int .i64 op, V k b s, V k c t] w fun e w' => e = .returned (.bool (hB op k b c s t)) ∧ Below w.heap.size w w' := by
  have C : Hid _ := compared_of b c s t
  have : op = 9 ∨ op = 10 ∨ op = 11 ∨ op = 12 ∨ op = 13 ∨ op = 14 := by omega
  rcases this with rfl | rfl | rfl | rfl | rfl | rfl
  case inr.inr.inr.inl =>
    cases l : cL k b c s t
    all_goals
      go_enter Tryz.func123, Tryz.ntmps123
      go_wp2_with (first | (go_at_call 156; refine (C.out _ k h0 h1 g0 g1).mono ?_; rintro e w1 ⟨rfl, hb⟩))
      go_ret
      exact ⟨ret_bool (by simp [hB, l]), (((Below.refl _ _).alloc (Nat.le_refl _) _).alloc (by simp) _).trans (hb.mono (by simp; omega))⟩
  case inr.inr.inr.inr.inr =>
    cases l : cM k b c s t
    all_goals
      go_enter Tryz.func123, Tryz.ntmps123
      go_wp2_with (first | (go_at_call 156; refine (C.out _ k h0 h1 g0 g1).mono ?_; rintro e w1 ⟨rfl, hb⟩))
      go_ret
      exact ⟨ret_bool (by simp [hB, l]), (((Below.refl _ _).alloc (Nat.le_refl _) _).alloc (by simp) _).trans (hb.mono (by simp; omega))⟩
  all_goals
    go_enter Tryz.func123, Tryz.ntmps123
    go_wp2_with (first | (go_at_call 156; refine (C.out _ k h0 h1 g0 g1).mono ?_; rintro e w1 ⟨rfl, hb⟩))
    go_ret
    exact ⟨rfl, (((Below.refl _ _).alloc (Nat.le_refl _) _).alloc (by simp) _).trans (hb.mono (by simp; omega))⟩
def tb (p : Bool) : Int := if p then 1 else 0
set_option maxHeartbeats 400000 in
theorem Bool_of (p : Bool) (w : World) : Calls Tryz.prog 92 #[.bool p] w fun e w' => e = .returned (V 1 (tb p) E0) ∧ Below w.heap.size w w' := by
  cases p
  · go_enter Tryz.func92, Tryz.ntmps92
    go_wp2
    exact bodyPost_ret (v := V 1 0 E0) (by simp [results, Tryz.results92, go_sem]) rfl ⟨rfl, (Below.refl _ _).alloc (Nat.le_refl _) _⟩
  · go_enter Tryz.func92, Tryz.ntmps92
    go_wp2
    exact bodyPost_ret (v := V 1 1 E0) (by simp [results, Tryz.results92, go_sem]) rfl ⟨rfl, (Below.refl _ _).alloc (Nat.le_refl _) _⟩
end
end Go.Proofs.YtpaibmganlaaeaaGreatDoor
namespace Go.Proofs.YtpaibmganlaaeaaGreatDoor
set_option linter.unusedVariables false
open Go.RowKit
/-- The kind that numbers of two kinds come to; 0: they are not reckoned so. -/
def outc (op k k' : Int) : Int :=
  if (1 ≤ op ∧ op ≤ 5) ∧ k = k' ∧ 2 ≤ k ∧ k ≤ 9 then k
  else if (op = 1 ∨ op = 2) ∧ k' = 14 ∧ (k = 14 ∨ k = 16 ∨ k = 17) then k
  else if op = 2 ∧ k = k' ∧ 14 ≤ k ∧ k ≤ 17 then 14
  else if (op = 3 ∨ op = 4) ∧ k = 14 ∧ k' = 5 then 14 else 0
set_option maxHeartbeats 4000000 in
theorem outcome_of (op k k' : Int) (w : World) :
    Calls Tryz.prog 127 #[.int .i64 op, .int .u8 k, .int .u8 k'] w fun e w' => e = .returned (.int .u8 (outc op k k')) ∧ w' = w := by
  go_enter Tryz.func127, Tryz.ntmps127
  go_wp2
  all_goals
    go_ret
    refine ⟨ret_int ?_, rfl⟩
  all_goals
    go_light
    try simp only [beq_eq_false_iff_ne, ne_eq, beq_iff_eq] at *
    unfold outc
    (repeat' split) <;> first | rfl | omega
end Go.Proofs.YtpaibmganlaaeaaGreatDoor
namespace Go.Proofs.YtpaibmganlaaeaaGreatDoor
set_option linter.unusedVariables false
open Go.RowKit
theorem add64_0 (x y : Int) (hx : 0 ≤ x) (hy : 0 ≤ y) (w : World) : (callFunc 179 #[.int .u64 x, .int .u64 y, .int .u64 0]).run Tryz.prog w =
    .ok (.value (.tuple #[.int .u64 ((x + y) % 18446744073709551616), .int .u64 ((x + y) / 18446744073709551616)])) w := by
  rw [run_callFunc_extern Tryz.func179 (by kernel_rfl) (by kernel_rfl) (by kernel_rfl) (e := add64Entry) (by kernel_rfl), run_add64 x y 0 hx hy (by omega) (by omega)]
  simp only [Result.andThen, Int.add_zero]
theorem below_n3 {w w1 : World} {x y z : Obj} (hb : Below (((w.alloc x).alloc y).alloc z).heap.size (((w.alloc x).alloc y).alloc z) w1) {u v : Value} {i j : Nat} :
    Below w.heap.size w ((w1.setCell ⟨w.heap.size + 1 + 1, i, none⟩ u).setCell ⟨w.heap.size + 1 + 1, j, none⟩ v) :=
  ((((((Below.refl _ _).alloc (Nat.le_refl _) _).alloc (by simp) _).alloc (by simp; omega) _).trans (hb.mono (by simp; omega))).setCell (by simp; omega) _).setCell (by simp; omega) _
set_option maxHeartbeats 1000000 in
theorem sum_same (p : Bool) (x y : Int) (w : World) (hx0 : 0 ≤ x) (hx : x < 18446744073709551616) (hy0 : 0 ≤ y) (hy : y < 18446744073709551616) :
    Calls Tryz.prog 158 #[.agg #[.bool p, .int .u64 x], .agg #[.bool p, .int .u64 y]] w fun e w' =>
      e = .returned (.tuple #[NB (sgn p ((x + y) % 18446744073709551616)), .bool ((x + y) / 18446744073709551616 == 0)]) ∧ Below w.heap.size w w' := by
  have m0 : 0 ≤ (x + y) % 18446744073709551616 := by omega
  cases p
  · go_enter Tryz.func158, Tryz.ntmps158
    go_wp2_with (first | simp only [add64_0 x y hx0 hy0] | (go_at_call 160; refine (signed_of _ _ _ m0).mono ?_; rintro e w1 ⟨rfl, hb⟩; obtain ⟨hc, hf⟩ := bcell hb))
    exact bodyPost_ret (v := .tuple #[NB (sgn false ((x + y) % 18446744073709551616)), .bool ((x + y) / 18446744073709551616 == 0)]) (by simp [results, Tryz.results158, go_sem, hc]) rfl ⟨rfl, below_n3 hb⟩
  · go_enter Tryz.func158, Tryz.ntmps158
    go_wp2_with (first | simp only [add64_0 x y hx0 hy0] | (go_at_call 160; refine (signed_of _ _ _ m0).mono ?_; rintro e w1 ⟨rfl, hb⟩; obtain ⟨hc, hf⟩ := bcell hb))
    exact bodyPost_ret (v := .tuple #[NB (sgn true ((x + y) % 18446744073709551616)), .bool ((x + y) / 18446744073709551616 == 0)]) (by simp [results, Tryz.results158, go_sem, hc]) rfl ⟨rfl, below_n3 hb⟩
set_option maxHeartbeats 1000000 in
theorem sum_more (p : Bool) (x y : Int) (w : World) (hx0 : 0 ≤ x) (hx : x < 18446744073709551616) (hy0 : 0 ≤ y) (hy : y < 18446744073709551616) (h : y ≤ x) :
    Calls Tryz.prog 158 #[.agg #[.bool p, .int .u64 x], .agg #[.bool (!p), .int .u64 y]] w fun e w' =>
      e = .returned (.tuple #[NB (sgn p (x - y)), .bool true]) ∧ Below w.heap.size w w' := by
  have m0 : 0 ≤ x - y := by omega
  cases p
  · go_enter Tryz.func158, Tryz.ntmps158
    go_wp2_with (first | (go_at_call 160; refine (signed_of _ _ _ m0).mono ?_; rintro e w1 ⟨rfl, hb⟩; obtain ⟨hc, hf⟩ := bcell hb))
    exact bodyPost_ret (v := .tuple #[NB (sgn false (x - y)), .bool true]) (by simp [results, Tryz.results158, go_sem, hc]) rfl ⟨rfl, below_n3 hb⟩
  · go_enter Tryz.func158, Tryz.ntmps158
    go_wp2_with (first | (go_at_call 160; refine (signed_of _ _ _ m0).mono ?_; rintro e w1 ⟨rfl, hb⟩; obtain ⟨hc, hf⟩ := bcell hb))
    exact bodyPost_ret (v := .tuple #[NB (sgn true (x - y)), .bool true]) (by simp [results, Tryz.results158, go_sem, hc]) rfl ⟨rfl, below_n3 hb⟩
set_option maxHeartbeats 1000000 in
theorem sum_less (p : Bool) (x y : Int) (w : World) (hx0 : 0 ≤ x) (hx : x < 18446744073709551616) (hy0 : 0 ≤ y) (hy : y < 18446744073709551616) (h : x < y) :
    Calls Tryz.prog 158 #[.agg #[.bool p, .int .u64 x], .agg #[.bool (!p), .int .u64 y]] w fun e w' =>
      e = .returned (.tuple #[NB (sgn (!p) (y - x)), .bool true]) ∧ Below w.heap.size w w' := by
  have m0 : 0 ≤ y - x := by omega
  cases p
  · go_enter Tryz.func158, Tryz.ntmps158
    go_wp2_with (first | (go_at_call 160; refine (signed_of _ _ _ m0).mono ?_; rintro e w1 ⟨rfl, hb⟩; obtain ⟨hc, hf⟩ := bcell hb))
    exact bodyPost_ret (v := .tuple #[NB (sgn true (y - x)), .bool true]) (by simp [results, Tryz.results158, go_sem, hc]) rfl ⟨rfl, below_n3 hb⟩
  · go_enter Tryz.func158, Tryz.ntmps158
    go_wp2_with (first | (go_at_call 160; refine (signed_of _ _ _ m0).mono ?_; rintro e w1 ⟨rfl, hb⟩; obtain ⟨hc, hf⟩ := bcell hb))
    exact bodyPost_ret (v := .tuple #[NB (sgn false (y - x)), .bool true]) (by simp [results, Tryz.results158, go_sem, hc]) rfl ⟨rfl, below_n3 hb⟩
/-- A sum of two numbers: it, and whether there is room for it; without room the number plays no part. -/
theorem sum_of (x y : Int) (w : World) (hx : -18446744073709551616 < x ∧ x < 18446744073709551616) (hy : -18446744073709551616 < y ∧ y < 18446744073709551616) :
    Calls Tryz.prog 158 #[NB x, NB y] w fun e w' => (∃ v, (room (x + y) = true → v = x + y) ∧ e = .returned (.tuple #[NB v, .bool (room (x + y))])) ∧ Below w.heap.size w w' := by
  by_cases c : decide (y < 0) = decide (x < 0)
  · have := sum_same (decide (x < 0)) x.natAbs y.natAbs w (by omega) (by omega) (by omega) (by omega)
    rw [show NB y = .agg #[.bool (decide (x < 0)), .int .u64 y.natAbs] by rw [← c]]
    refine this.mono fun e w' ⟨he, hb⟩ => ⟨⟨sgn (decide (x < 0)) (((x.natAbs : Int) + y.natAbs) % 18446744073709551616), ?_, ?_⟩, hb⟩
    · intro h
      simp [room] at h
      by_cases d : x < 0
      · have d2 : y < 0 := by simp [d] at c; omega
        simp [sgn, d]; omega
      · have d2 : ¬ y < 0 := by simp [d] at c; omega
        simp [sgn, d]; omega
    · rw [he]
      have : (((x.natAbs : Int) + y.natAbs) / 18446744073709551616 == 0) = room (x + y) := by
        rw [Bool.eq_iff_iff]
        by_cases d : x < 0
        · have d2 : y < 0 := by simp [d] at c; omega
          simp [room]; omega
        · have d2 : ¬ y < 0 := by simp [d] at c; omega
          simp [room]; omega
      rw [this]
  · have e1 : decide (y < 0) = !decide (x < 0) := by cases h : decide (y < 0) <;> cases g : decide (x < 0) <;> simp [h, g] at c ⊢
    have r : room (x + y) = true := by
      by_cases d : x < 0
      · have d2 : ¬ y < 0 := by simp [d] at e1; omega
        simp [room]; omega
      · have d2 : y < 0 := by simp [d] at e1; omega
        simp [room]; omega
    rw [show NB y = .agg #[.bool (!decide (x < 0)), .int .u64 y.natAbs] by rw [← e1], r]
    by_cases h : (y.natAbs : Int) ≤ x.natAbs
    · have := sum_more (decide (x < 0)) x.natAbs y.natAbs w (by omega) (by omega) (by omega) (by omega) h
      refine this.mono fun e w' ⟨he, hb⟩ => ⟨⟨x + y, fun _ => rfl, ?_⟩, hb⟩
      rw [he]
      have : sgn (decide (x < 0)) ((x.natAbs : Int) - y.natAbs) = x + y := by
        by_cases d : x < 0
        · have d2 : ¬ y < 0 := by simp [d] at e1; omega
          simp [sgn, d]; omega
        · have d2 : y < 0 := by simp [d] at e1; omega
          simp [sgn, d]; omega
      rw [this]
    · have := sum_less (decide (x < 0)) x.natAbs y.natAbs w (by omega) (by omega) (by omega) (by omega) (by omega)
      refine this.mono fun e w' ⟨he, hb⟩ => ⟨⟨x + y, fun _ => rfl, ?_⟩, hb⟩
      rw [he]
      have : sgn (!decide (x < 0)) ((y.natAbs : Int) - x.natAbs) = x + y := by
        by_cases d : x < 0
        · have d2 : ¬ y < 0 := by simp [d] at e1; omega
          simp [sgn, d]; omega
        · have d2 : y < 0 := by simp [d] at e1; omega
          simp [sgn, d]; omega
      rw [this]
end Go.Proofs.YtpaibmganlaaeaaGreatDoor
namespace Go.Proofs.YtpaibmganlaaeaaGreatDoor
set_option linter.unusedVariables false
open Go.RowKit
theorem mk32 (a : Nat) (ha : a < 18446744073709551616) : bits .and .u64 (a : Int) 4294967295 = ((a % 4294967296 : Nat) : Int) := by
  have h := bits_and_u64_nat a 4294967295 ha (by omega)
  rwa [show a &&& 4294967295 = a % 4294967296 from Nat.and_two_pow_sub_one_eq_mod a 32] at h
theorem dv32 (a : Nat) : (a : Int) / 4294967296 = ((a / 4294967296 : Nat) : Int) := by omega
theorem wr64 (a : Nat) (ha : a < 18446744073709551616) : IntKind.u64.wrap (a : Int) = (a : Int) := by rw [IntKind.wrap_u64]; omega
theorem wm64 (a : Nat) : IntKind.u64.wrap (a : Int) = ((a % 18446744073709551616 : Nat) : Int) := by rw [IntKind.wrap_u64]; omega
set_option maxHeartbeats 1000000 in
theorem Mul64_of (x y : Nat) (hx : x < 18446744073709551616) (hy : y < 18446744073709551616) (w : World) :
    Calls Tryz.prog 180 #[.int .u64 x, .int .u64 y] w fun e w' => e = .returned (.tuple #[.int .u64 ((x * y / 18446744073709551616 : Nat) : Int), .int .u64 ((x * y % 18446744073709551616 : Nat) : Int)]) ∧ w' = w := by
  obtain ⟨bd, bt, bw, hhi⟩ := Lib.mul64_hi x y hx hy
  have ba := Lib.half_mul_le (a := x / 4294967296) (b := y / 4294967296) (by omega) (by omega)
  have bb := Lib.half_mul_le (a := x / 4294967296) (b := y % 4294967296) (by omega) (by omega)
  have bc := Lib.half_mul_le (a := x % 4294967296) (b := y / 4294967296) (by omega) (by omega)
  have ba' : x / 4294967296 * (y / 4294967296) < 18446744073709551616 := by omega
  have bb' : x / 4294967296 * (y % 4294967296) < 18446744073709551616 := by omega
  have bc' : x % 4294967296 * (y / 4294967296) < 18446744073709551616 := by omega
  have bh1 : x / 4294967296 * (y / 4294967296) + (x / 4294967296 * (y % 4294967296) + x % 4294967296 * (y % 4294967296) / 4294967296) / 4294967296 < 18446744073709551616 := by omega
  have bh : x / 4294967296 * (y / 4294967296) + (x / 4294967296 * (y % 4294967296) + x % 4294967296 * (y % 4294967296) / 4294967296) / 4294967296 + ((x / 4294967296 * (y % 4294967296) + x % 4294967296 * (y % 4294967296) / 4294967296) % 4294967296 + x % 4294967296 * (y / 4294967296)) / 4294967296 < 18446744073709551616 := by omega
  go_enter Tryz.func180, Tryz.ntmps180
  go_wp2
  simp only [mk32 x hx, mk32 y hy, dv32, ← Int.natCast_mul, ← Int.natCast_add, wr64 _ bd, wr64 _ bb', wr64 _ bt, mk32 _ bt, wr64 _ bc', wr64 _ bw, wr64 _ ba', wr64 _ bh1, wr64 _ bh, wm64 (x * y)]
  rw [hhi]
  go_ret2
  exact ⟨rfl, rfl⟩
set_option maxHeartbeats 1000000 in
theorem product_raw (p q : Bool) (x y : Nat) (w : World) (hx : x < 18446744073709551616) (hy : y < 18446744073709551616) :
    Calls Tryz.prog 159 #[.agg #[.bool p, .int .u64 x], .agg #[.bool q, .int .u64 y]] w fun e w' =>
      e = .returned (.tuple #[NB (sgn (p != q) ((x * y % 18446744073709551616 : Nat) : Int)), .bool (((x * y / 18446744073709551616 : Nat) : Int) == 0)]) ∧ Below w.heap.size w w' := by
  have m0 : (0 : Int) ≤ ((x * y % 18446744073709551616 : Nat) : Int) := by omega
  have M : Hid _ := Mul64_of x y hx hy
  generalize x * y % 18446744073709551616 = lo at *
  generalize x * y / 18446744073709551616 = hi at *
  cases p <;> cases q
  all_goals
    go_enter Tryz.func159, Tryz.ntmps159
    go_wp2_with (first | (go_at_call 180; refine (M.out _).mono ?_; rintro e w1 ⟨rfl, rfl⟩) | (go_at_call 160; refine (signed_of _ _ _ m0).mono ?_; rintro e w1 ⟨rfl, hb⟩; obtain ⟨hc, hf⟩ := bcell hb))
    refine bodyPost_ret (v := .tuple #[NB (sgn _ (lo : Int)), .bool ((hi : Int) == 0)]) (by simp [results, Tryz.results159, go_sem, hc]) rfl ⟨rfl, below_n3 hb⟩
/-- A product of two numbers: it, and whether there is room for it; without room the number plays no part. -/
theorem product_of (x y : Int) (w : World) (hx : -18446744073709551616 < x ∧ x < 18446744073709551616) (hy : -18446744073709551616 < y ∧ y < 18446744073709551616) :
    Calls Tryz.prog 159 #[NB x, NB y] w fun e w' => (∃ v, (room (x * y) = true → v = x * y) ∧ e = .returned (.tuple #[NB v, .bool (room (x * y))])) ∧ Below w.heap.size w w' := by
  have := product_raw (decide (x < 0)) (decide (y < 0)) x.natAbs y.natAbs w (by omega) (by omega)
  refine this.mono fun e w' ⟨he, hb⟩ => ⟨⟨sgn (decide (x < 0) != decide (y < 0)) ((x.natAbs * y.natAbs % 18446744073709551616 : Nat) : Int), ?_, ?_⟩, hb⟩
  · intro h
    have ha : (x * y).natAbs = x.natAbs * y.natAbs := Int.natAbs_mul x y
    have hs : sgn (decide (x < 0) != decide (y < 0)) ((x.natAbs * y.natAbs : Nat) : Int) = x * y := by
      rw [Int.natCast_mul]
      by_cases d : x < 0 <;> by_cases d2 : y < 0
      · have e1 : (x.natAbs : Int) = -x := by omega
        have e2 : (y.natAbs : Int) = -y := by omega
        simp only [sgn, d, d2, decide_true, bne_self_eq_false, Bool.false_eq_true, if_false]
        rw [e1, e2, Int.neg_mul_neg]
      · have e1 : (x.natAbs : Int) = -x := by omega
        have e2 : (y.natAbs : Int) = y := by omega
        simp [sgn, d, d2]
        rw [e1, e2, Int.neg_mul, Int.neg_neg]
      · have e1 : (x.natAbs : Int) = x := by omega
        have e2 : (y.natAbs : Int) = -y := by omega
        simp [sgn, d, d2]
        rw [e1, e2, Int.mul_neg, Int.neg_neg]
      · have e1 : (x.natAbs : Int) = x := by omega
        have e2 : (y.natAbs : Int) = y := by omega
        simp [sgn, d, d2]
        rw [e1, e2]
    rw [← hs]
    simp [room] at h
    rw [← ha] at *
    rw [Nat.mod_eq_of_lt (by generalize x * y = z at *; omega)]
  · rw [he]
    have ha : (x * y).natAbs = x.natAbs * y.natAbs := Int.natAbs_mul x y
    have : (((x.natAbs * y.natAbs / 18446744073709551616 : Nat) : Int) == 0) = room (x * y) := by
      rw [← ha, Bool.eq_iff_iff]
      generalize x * y = z at *
      simp [room]; omega
    rw [this]
end Go.Proofs.YtpaibmganlaaeaaGreatDoor
namespace Go.Proofs.YtpaibmganlaaeaaGreatDoor
set_option linter.unusedVariables false
open Go.RowKit
abbrev N0 : Value := .agg #[.bool false, .int .u64 0]
section
variable (x y : Int) (w : World)
theorem sum_yes (hx : -18446744073709551616 < x ∧ x < 18446744073709551616) (hy : -18446744073709551616 < y ∧ y < 18446744073709551616) (h : room (x + y) = true) :
    Calls Tryz.prog 158 #[NB x, NB y] w fun e w' => e = .returned (.tuple #[NB (x + y), .bool true]) ∧ Below w.heap.size w w' := by
  refine (sum_of x y w hx hy).mono ?_
  rintro e w' ⟨⟨v, hv, rfl⟩, hb⟩
  rw [hv h, h]; exact ⟨rfl, hb⟩
theorem sum_no (hx : -18446744073709551616 < x ∧ x < 18446744073709551616) (hy : -18446744073709551616 < y ∧ y < 18446744073709551616) (h : room (x + y) = false) :
    Calls Tryz.prog 158 #[NB x, NB y] w fun e w' => (∃ v, e = .returned (.tuple #[NB v, .bool false])) ∧ Below w.heap.size w w' := by
  refine (sum_of x y w hx hy).mono ?_
  rintro e w' ⟨⟨v, hv, rfl⟩, hb⟩
  rw [h]; exact ⟨⟨v, rfl⟩, hb⟩
theorem product_yes (hx : -18446744073709551616 < x ∧ x < 18446744073709551616) (hy : -18446744073709551616 < y ∧ y < 18446744073709551616) (h : room (x * y) = true) :
    Calls Tryz.prog 159 #[NB x, NB y] w fun e w' => e = .returned (.tuple #[NB (x * y), .bool true]) ∧ Below w.heap.size w w' := by
  refine (product_of x y w hx hy).mono ?_
  rintro e w' ⟨⟨v, hv, rfl⟩, hb⟩
  rw [hv h, h]; exact ⟨rfl, hb⟩
theorem product_no (hx : -18446744073709551616 < x ∧ x < 18446744073709551616) (hy : -18446744073709551616 < y ∧ y < 18446744073709551616) (h : room (x * y) = false) :
    Calls Tryz.prog 159 #[NB x, NB y] w fun e w' => (∃ v, e = .returned (.tuple #[NB v, .bool false])) ∧ Below w.heap.size w w' := by
  refine (product_of x y w hx hy).mono ?_
  rintro e w' ⟨⟨v, hv, rfl⟩, hb⟩
  rw [h]; exact ⟨⟨v, rfl⟩, hb⟩
end
theorem below4 {w w1 : World} {x y z u : Obj} (hb : Below ((((w.alloc x).alloc y).alloc z).alloc u).heap.size ((((w.alloc x).alloc y).alloc z).alloc u) w1) :
    Below w.heap.size w w1 ∧ w.heap.size + 1 + 1 + 1 < w1.heap.size := by
  refine ⟨((((((Below.refl _ _).alloc (Nat.le_refl _) _).alloc (by simp) _).alloc (by simp; omega) _).alloc (by simp; omega) _).trans (hb.mono (by simp; omega))), ?_⟩
  have := hb.size
  simp at this
  omega
theorem steps4b {W w1 : World} {h : Nat} (hb : Below W.heap.size W w1) (z : h + 1 + 1 + 1 < W.heap.size) :
    h + 1 + 1 + 1 < w1.heap.size ∧ (∀ o, w1.cell? ⟨h, o, none⟩ = W.cell? ⟨h, o, none⟩) ∧ (∀ o, w1.cell? ⟨h + 1, o, none⟩ = W.cell? ⟨h + 1, o, none⟩) ∧ (∀ o, w1.cell? ⟨h + 1 + 1, o, none⟩ = W.cell? ⟨h + 1 + 1, o, none⟩) ∧ (∀ o, w1.cell? ⟨h + 1 + 1 + 1, o, none⟩ = W.cell? ⟨h + 1 + 1 + 1, o, none⟩) ∧
    (∀ o, w1.frozen? ⟨h + 1 + 1, o, none⟩ = W.frozen? ⟨h + 1 + 1, o, none⟩) ∧ (∀ o, w1.frozen? ⟨h + 1 + 1 + 1, o, none⟩ = W.frozen? ⟨h + 1 + 1 + 1, o, none⟩) :=
  ⟨Nat.lt_of_lt_of_le z hb.size, fun o => hb.cell (p := ⟨h, o, none⟩) (by show h < _; omega), fun o => hb.cell (p := ⟨h + 1, o, none⟩) (by show h + 1 < _; omega), fun o => hb.cell (p := ⟨h + 1 + 1, o, none⟩) (by show h + 1 + 1 < _; omega), fun o => hb.cell (p := ⟨h + 1 + 1 + 1, o, none⟩) z, fun o => hb.frozen (p := ⟨h + 1 + 1, o, none⟩) (by show h + 1 + 1 < _; omega), fun o => hb.frozen (p := ⟨h + 1 + 1 + 1, o, none⟩) z⟩
theorem steps4 {w w1 : World} {x y z u : Obj} (hb : Below ((((w.alloc x).alloc y).alloc z).alloc u).drew.heap.size ((((w.alloc x).alloc y).alloc z).alloc u).drew w1) :
    Below w.heap.size w w1 ∧ w.heap.size + 1 + 1 + 1 < ((((w.alloc x).alloc y).alloc z).alloc u).drew.heap.size := by
  refine ⟨(((((((Below.refl _ _).alloc (Nat.le_refl _) _).alloc (by simp) _).alloc (by simp; omega) _).alloc (by simp; omega) _).drew.trans (hb.mono (by simp; omega)))), ?_⟩
  simp
section
variable (x y : Int) (w : World)
set_option maxHeartbeats 1000000 in
theorem rn_add_yes (hx : -18446744073709551616 < x ∧ x < 18446744073709551616) (hy : -18446744073709551616 < y ∧ y < 18446744073709551616) (h : room (x + y) = true) :
    Calls Tryz.prog 128 #[.int .i64 1, NB x, NB y] w fun e w' => e = .returned (.tuple #[NB (x + y), .int .i64 0]) ∧ Below w.heap.size w w' := by
  have H : Hid _ := sum_yes x y
  go_enter Tryz.func128, Tryz.ntmps128
  go_wp2_with (go_at_call 158; refine (H.out _ hx hy h).mono ?_; rintro e w1 ⟨rfl, hb⟩; obtain ⟨hc, hf⟩ := bcell hb; obtain ⟨B, z⟩ := below4 hb)
  refine bodyPost_ret (v := .tuple #[NB (x + y), .int .i64 0]) (by simp [results, Tryz.results128, go_sem, hc]) rfl ⟨rfl, ?_⟩
  go_grown
set_option maxHeartbeats 1000000 in
theorem rn_add_no (hx : -18446744073709551616 < x ∧ x < 18446744073709551616) (hy : -18446744073709551616 < y ∧ y < 18446744073709551616) (h : room (x + y) = false) :
    Calls Tryz.prog 128 #[.int .i64 1, NB x, NB y] w fun e w' => e = .returned (.tuple #[N0, .int .i64 1]) ∧ Below w.heap.size w w' := by
  have H : Hid _ := sum_no x y
  go_enter Tryz.func128, Tryz.ntmps128
  go_wp2_with (go_at_call 158; refine (H.out _ hx hy h).mono ?_; rintro e w1 ⟨⟨v, rfl⟩, hb⟩; obtain ⟨hc, hf⟩ := bcell hb; obtain ⟨B, z⟩ := below4 hb)
  refine bodyPost_ret (v := .tuple #[N0, .int .i64 1]) (by simp [results, Tryz.results128, go_sem, hc]) rfl ⟨rfl, ?_⟩
  go_grown
set_option maxHeartbeats 1000000 in
theorem rn_mul_yes (hx : -18446744073709551616 < x ∧ x < 18446744073709551616) (hy : -18446744073709551616 < y ∧ y < 18446744073709551616) (h : room (x * y) = true) :
    Calls Tryz.prog 128 #[.int .i64 3, NB x, NB y] w fun e w' => e = .returned (.tuple #[NB (x * y), .int .i64 0]) ∧ Below w.heap.size w w' := by
  have H : Hid _ := product_yes x y
  go_enter Tryz.func128, Tryz.ntmps128
  go_wp2_with (go_at_call 159; refine (H.out _ hx hy h).mono ?_; rintro e w1 ⟨rfl, hb⟩; obtain ⟨hc, hf⟩ := bcell hb; obtain ⟨B, z⟩ := below4 hb)
  refine bodyPost_ret (v := .tuple #[NB (x * y), .int .i64 0]) (by simp [results, Tryz.results128, go_sem, hc]) rfl ⟨rfl, ?_⟩
  go_grown
set_option maxHeartbeats 1000000 in
theorem rn_mul_no (hx : -18446744073709551616 < x ∧ x < 18446744073709551616) (hy : -18446744073709551616 < y ∧ y < 18446744073709551616) (h : room (x * y) = false) :
    Calls Tryz.prog 128 #[.int .i64 3, NB x, NB y] w fun e w' => e = .returned (.tuple #[N0, .int .i64 1]) ∧ Below w.heap.size w w' := by
  have H : Hid _ := product_no x y
  go_enter Tryz.func128, Tryz.ntmps128
  go_wp2_with (go_at_call 159; refine (H.out _ hx hy h).mono ?_; rintro e w1 ⟨⟨v, rfl⟩, hb⟩; obtain ⟨hc, hf⟩ := bcell hb; obtain ⟨B, z⟩ := below4 hb)
  refine bodyPost_ret (v := .tuple #[N0, .int .i64 1]) (by simp [results, Tryz.results128, go_sem, hc]) rfl ⟨rfl, ?_⟩
  go_grown
set_option maxHeartbeats 1000000 in
theorem rn_zero (op : Int) (o : op = 4 ∨ op = 5) :
    Calls Tryz.prog 128 #[.int .i64 op, NB x, N0] w fun e w' => e = .returned (.tuple #[N0, .int .i64 2]) ∧ Below w.heap.size w w' := by
  rcases o with rfl | rfl
  all_goals
    go_enter Tryz.func128, Tryz.ntmps128
    go_wp2
    refine bodyPost_ret (v := .tuple #[N0, .int .i64 2]) (by simp [results, Tryz.results128, go_sem]) rfl ⟨rfl, ?_⟩
    go_grown
set_option maxHeartbeats 1000000 in
theorem rn_sub_yes (hx : -18446744073709551616 < x ∧ x < 18446744073709551616) (hy : -18446744073709551616 < y ∧ y < 18446744073709551616) (h : room (x + -y) = true) :
    Calls Tryz.prog 128 #[.int .i64 2, NB x, NB y] w fun e w' => e = .returned (.tuple #[NB (x + -y), .int .i64 0]) ∧ Below w.heap.size w w' := by
  have H : Hid _ := fun w => sum_yes x (-y) w hx (by omega) h
  clear h
  have q0 : ¬ w.heap.size + 1 + 1 + 1 = w.heap.size := by omega
  have q1 : ¬ w.heap.size + 1 + 1 = w.heap.size := by omega
  go_enter Tryz.func128, Tryz.ntmps128
  go_wp2_with fail
  go_region_held3 (fun w' => w'.cell? ⟨w.heap.size, 0, none⟩ = some (.bool (decide (x < 0))) ∧ w'.cell? ⟨w.heap.size, 1, none⟩ = some (.int .u64 x.natAbs) ∧ w'.cell? ⟨w.heap.size + 1, 0, none⟩ = some (.bool (decide (y < 0))) ∧ w'.cell? ⟨w.heap.size + 1, 1, none⟩ = some (.int .u64 y.natAbs)) (go_keep)
    (first | (go_at_call 132; refine (opposite_of _ _).mono ?_; rintro e w1 ⟨rfl, hb⟩; obtain ⟨B, z⟩ := steps4 hb; obtain ⟨y0, n0, n1, n2, n3, n4, n5⟩ := steps4b hb z) | (go_at_call 158; refine (H.out _).mono ?_; rintro e w2 ⟨rfl, hb2⟩; obtain ⟨z2, m0, m1, m2, m3, m4, m5⟩ := steps4b hb2 y0))
  have B2 := B.trans (hb2.mono (by omega))
  go_wp2
  refine bodyPost_ret (v := .tuple #[NB (x + -y), .int .i64 0]) (by simp [results, Tryz.results128, go_sem, m2, n2]) rfl ⟨rfl, ?_⟩
  go_grown
set_option maxHeartbeats 1000000 in
theorem rn_sub_no (hx : -18446744073709551616 < x ∧ x < 18446744073709551616) (hy : -18446744073709551616 < y ∧ y < 18446744073709551616) (h : room (x + -y) = false) :
    Calls Tryz.prog 128 #[.int .i64 2, NB x, NB y] w fun e w' => e = .returned (.tuple #[N0, .int .i64 1]) ∧ Below w.heap.size w w' := by
  have H : Hid _ := fun w => sum_no x (-y) w hx (by omega) h
  clear h
  have q0 : ¬ w.heap.size + 1 + 1 + 1 = w.heap.size := by omega
  have q1 : ¬ w.heap.size + 1 + 1 = w.heap.size := by omega
  go_enter Tryz.func128, Tryz.ntmps128
  go_wp2_with fail
  go_region_held3 (fun w' => w'.cell? ⟨w.heap.size, 0, none⟩ = some (.bool (decide (x < 0))) ∧ w'.cell? ⟨w.heap.size, 1, none⟩ = some (.int .u64 x.natAbs) ∧ w'.cell? ⟨w.heap.size + 1, 0, none⟩ = some (.bool (decide (y < 0))) ∧ w'.cell? ⟨w.heap.size + 1, 1, none⟩ = some (.int .u64 y.natAbs)) (go_keep)
    (first | (go_at_call 132; refine (opposite_of _ _).mono ?_; rintro e w1 ⟨rfl, hb⟩; obtain ⟨B, z⟩ := steps4 hb; obtain ⟨y0, n0, n1, n2, n3, n4, n5⟩ := steps4b hb z) | (go_at_call 158; refine (H.out _).mono ?_; rintro e w2 ⟨⟨v, rfl⟩, hb2⟩; obtain ⟨z2, m0, m1, m2, m3, m4, m5⟩ := steps4b hb2 y0))
  have B2 := B.trans (hb2.mono (by omega))
  go_wp2
  refine bodyPost_ret (v := .tuple #[N0, .int .i64 1]) (by simp [results, Tryz.results128, go_sem, m2, n2]) rfl ⟨rfl, ?_⟩
  go_grown
end
set_option maxHeartbeats 1000000 in
theorem rn_div_raw (p q : Bool) (x y : Int) (w : World) (hx0 : 0 ≤ x) (hx : x < 18446744073709551616) (hy0 : 0 < y) (hy : y < 18446744073709551616) :
    Calls Tryz.prog 128 #[.int .i64 4, .agg #[.bool p, .int .u64 x], .agg #[.bool q, .int .u64 y]] w fun e w' => e = .returned (.tuple #[NB (sgn (p != q) (x / y)), .int .i64 0]) ∧ Below w.heap.size w w' := by
  have h' : (y == 0) = false := by simp; omega
  have h2 : ¬ y = 0 := by omega
  have m0 : 0 ≤ x / y := Int.ediv_nonneg hx0 (by omega)
  have m1 : x / y < 18446744073709551616 := by have := Int.ediv_le_self y hx0; omega
  have m2 : IntKind.u64.wrap (x / y) = x / y := by rw [IntKind.wrap_u64]; omega
  have m3 : x.tdiv y = x / y := Int.tdiv_eq_ediv_of_nonneg hx0
  have q0 : ¬ w.heap.size + 1 + 1 + 1 = w.heap.size := by omega
  have q1 : ¬ w.heap.size + 1 + 1 = w.heap.size := by omega
  have S : Hid _ := fun w => signed_of (p != q) (x / y) w m0
  go_enter Tryz.func128, Tryz.ntmps128
  go_wp2_with fail
  go_region_held3 (fun w' => w'.cell? ⟨w.heap.size, 0, none⟩ = some (.bool p) ∧ w'.cell? ⟨w.heap.size, 1, none⟩ = some (.int .u64 x) ∧ w'.cell? ⟨w.heap.size + 1, 0, none⟩ = some (.bool q) ∧ w'.cell? ⟨w.heap.size + 1, 1, none⟩ = some (.int .u64 y)) (go_keep)
    (first | (go_at_call 160; refine (S.out _).mono ?_; rintro e w1 ⟨rfl, hb⟩; obtain ⟨B, z⟩ := steps4 hb; obtain ⟨y0, n0, n1, n2, n3, n4, n5⟩ := steps4b hb z))
  go_wp2
  refine bodyPost_ret (v := .tuple #[NB (sgn (p != q) (x / y)), .int .i64 0]) (by simp [results, Tryz.results128, go_sem, n2]) rfl ⟨rfl, ?_⟩
  go_grown
set_option maxHeartbeats 1000000 in
theorem rn_mod_raw (p q : Bool) (x y : Int) (w : World) (hx0 : 0 ≤ x) (hx : x < 18446744073709551616) (hy0 : 0 < y) (hy : y < 18446744073709551616) :
    Calls Tryz.prog 128 #[.int .i64 5, .agg #[.bool p, .int .u64 x], .agg #[.bool q, .int .u64 y]] w fun e w' => e = .returned (.tuple #[NB (sgn p (x % y)), .int .i64 0]) ∧ Below w.heap.size w w' := by
  have h' : (y == 0) = false := by simp; omega
  have h2 : ¬ y = 0 := by omega
  have m0 : 0 ≤ x % y := Int.emod_nonneg x (by omega)
  have m1 : x % y < 18446744073709551616 := by have := Int.emod_lt_of_pos x hy0; omega
  have m2 : IntKind.u64.wrap (x % y) = x % y := by rw [IntKind.wrap_u64]; omega
  have m3 : x.tmod y = x % y := Int.tmod_eq_emod_of_nonneg hx0
  have q0 : ¬ w.heap.size + 1 + 1 + 1 = w.heap.size := by omega
  have q1 : ¬ w.heap.size + 1 + 1 = w.heap.size := by omega
  have S : Hid _ := fun w => signed_of p (x % y) w m0
  go_enter Tryz.func128, Tryz.ntmps128
  go_wp2_with fail
  go_region_held3 (fun w' => w'.cell? ⟨w.heap.size, 0, none⟩ = some (.bool p) ∧ w'.cell? ⟨w.heap.size, 1, none⟩ = some (.int .u64 x) ∧ w'.cell? ⟨w.heap.size + 1, 1, none⟩ = some (.int .u64 y)) (go_keep)
    (first | (go_at_call 160; refine (S.out _).mono ?_; rintro e w1 ⟨rfl, hb⟩; obtain ⟨B, z⟩ := steps4 hb; obtain ⟨y0, n0, n1, n2, n3, n4, n5⟩ := steps4b hb z))
  go_wp2
  refine bodyPost_ret (v := .tuple #[NB (sgn p (x % y)), .int .i64 0]) (by simp [results, Tryz.results128, go_sem, n2]) rfl ⟨rfl, ?_⟩
  go_grown
/-- What reckonNumbers answers. -/
def rnR (op x y : Int) : Value :=
  if (op = 4 ∨ op = 5) ∧ y = 0 then .tuple #[N0, .int .i64 2] else if room (opI op x y) then .tuple #[NB (opI op x y), .int .i64 0] else .tuple #[N0, .int .i64 1]
theorem sgn_div (x y : Int) : sgn (decide (x < 0) != decide (y < 0)) ((x.natAbs : Int) / y.natAbs) = x.tdiv y := by
  by_cases d : x < 0 <;> by_cases d2 : y < 0
  · have e1 : (x.natAbs : Int) = -x := by omega
    have e2 : (y.natAbs : Int) = -y := by omega
    simp only [sgn, d, d2, decide_true, bne_self_eq_false, Bool.false_eq_true, if_false]
    rw [e1, e2, ← Int.tdiv_eq_ediv_of_nonneg (by omega), Int.neg_tdiv, Int.tdiv_neg, Int.neg_neg]
  · have e1 : (x.natAbs : Int) = -x := by omega
    have e2 : (y.natAbs : Int) = y := by omega
    simp [sgn, d, d2]
    rw [e1, e2, ← Int.tdiv_eq_ediv_of_nonneg (by omega), Int.neg_tdiv, Int.neg_neg]
  · have e1 : (x.natAbs : Int) = x := by omega
    have e2 : (y.natAbs : Int) = -y := by omega
    simp [sgn, d, d2]
    rw [e1, e2, ← Int.tdiv_eq_ediv_of_nonneg (by omega), Int.tdiv_neg, Int.neg_neg]
  · have e1 : (x.natAbs : Int) = x := by omega
    have e2 : (y.natAbs : Int) = y := by omega
    simp [sgn, d, d2]
    rw [e1, e2, ← Int.tdiv_eq_ediv_of_nonneg (by omega)]
theorem sgn_mod (x y : Int) : sgn (decide (x < 0)) ((x.natAbs : Int) % y.natAbs) = x.tmod y := by
  have h : ∀ z : Int, 0 ≤ z → z.tmod y = z % (y.natAbs : Int) := by
    intro z hz
    rw [Int.tmod_eq_emod_of_nonneg hz]
    by_cases c : 0 ≤ y
    · rw [show (y.natAbs : Int) = y by omega]
    · rw [show (y.natAbs : Int) = -y by omega, Int.emod_neg]
  by_cases d : x < 0
  · have e1 : (x.natAbs : Int) = -x := by omega
    simp only [sgn, d, decide_true, if_true]
    rw [e1, ← h (-x) (by omega), Int.neg_tmod, Int.neg_neg]
  · have e1 : (x.natAbs : Int) = x := by omega
    simp only [sgn, d, decide_false, Bool.false_eq_true, if_false]
    rw [e1, ← h x (by omega)]
theorem room_t {n : Int} (h : -18446744073709551616 < n ∧ n < 18446744073709551616) : room n = true := by simpa [room] using h
theorem reckonNumbers_of (op x y : Int) (w : World) (ho : 1 ≤ op ∧ op ≤ 5) (hx : -18446744073709551616 < x ∧ x < 18446744073709551616) (hy : -18446744073709551616 < y ∧ y < 18446744073709551616) :
    Calls Tryz.prog 128 #[.int .i64 op, NB x, NB y] w fun e w' => e = .returned (rnR op x y) ∧ Below w.heap.size w w' := by
  have : op = 1 ∨ op = 2 ∨ op = 3 ∨ op = 4 ∨ op = 5 := by omega
  unfold rnR
  rcases this with rfl | rfl | rfl | rfl | rfl
  · rw [if_neg (by omega), show opI 1 x y = x + y from rfl]
    cases h : room (x + y)
    · rw [if_neg (by simp)]; exact rn_add_no x y w hx hy h
    · rw [if_pos rfl]; exact rn_add_yes x y w hx hy h
  · rw [if_neg (by omega), show opI 2 x y = x - y from rfl, Int.sub_eq_add_neg]
    cases h : room (x + -y)
    · rw [if_neg (by simp)]; exact rn_sub_no x y w hx hy h
    · rw [if_pos rfl]; exact rn_sub_yes x y w hx hy h
  · rw [if_neg (by omega), show opI 3 x y = x * y from rfl]
    cases h : room (x * y)
    · rw [if_neg (by simp)]; exact rn_mul_no x y w hx hy h
    · rw [if_pos rfl]; exact rn_mul_yes x y w hx hy h
  · by_cases z : y = 0
    · subst z
      rw [if_pos (by omega)]
      exact rn_zero x w 4 (.inl rfl)
    · rw [if_neg (by omega), show opI 4 x y = x.tdiv y from rfl]
      have := tdiv_bd x y
      rw [room_t (by omega), if_pos rfl]
      rw [← sgn_div x y]
      exact rn_div_raw (decide (x < 0)) (decide (y < 0)) x.natAbs y.natAbs w (by omega) (by omega) (by omega) (by omega)
  · by_cases z : y = 0
    · subst z
      rw [if_pos (by omega)]
      exact rn_zero x w 5 (.inr rfl)
    · rw [if_neg (by omega), show opI 5 x y = x.tmod y from rfl]
      have := tmod_bd x y
      rw [room_t (by omega), if_pos rfl]
      rw [← sgn_mod x y]
      exact rn_mod_raw (decide (x < 0)) (decide (y < 0)) x.natAbs y.natAbs w (by omega) (by omega) (by omega) (by omega)
end Go.Proofs.YtpaibmganlaaeaaGreatDoor
