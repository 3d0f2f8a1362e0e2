/- What the value package's six comparisons of two values of one kind come to, and how two values' boxes are read behind a call; no statement of the seat is proved here. -/
import Derived.Test.YtkanhbokdjppoaaGreatDoorLreal
import Derived.Test.YtkanhbokdjppoaaGreatDoorRecM
import Derived.Handy
import Derived.Deep.Light
import Derived.Deep.QuietTactic
import Derived.BigQuiet
namespace Go.Proofs.YtkanhbokdjppoaaGreatDoor
set_option linter.unusedVariables false
open Go.RowKit
theorem bdN {B : Nat} {a w : World} (h : Below B a w) (n : Nat) : Below B a (w.drewN n) := ⟨h.os, h.tape, h.output, h.size, h.block⟩
abbrev ZC (u : TypeId) : Obj := .cells #[.int .u8 0, .int .u64 0, .string ⟨#[]⟩] u
theorem may_w {k b : Int} {s : ByteArray} (c : may3 k b s = true) (h : ¬ k = 19) : mayW k b = true ∧ s.toList = [] := by
  simp [may3, h] at c; exact ⟨c.2, c.1⟩
theorem text_nil {k b : Int} {s : ByteArray} (c : may3 k b s = true) (h : ¬ k = 19) : s = E0 := (toList_nil_iff_emptyBytes s).1 (may_w c h).2
/-- Two values' boxes and a result's, behind a first call. -/
theorem step_ab0 {w w1 : World} {k b k' c : Int} {s t : ByteArray} {u v x : TypeId}
    (hb : Below (((w.alloc (.cells #[.int .u8 k, .int .u64 b, .string s] u)).alloc (.cells #[.int .u8 k', .int .u64 c, .string t] v)).alloc (ZC x)).heap.size (((w.alloc (.cells #[.int .u8 k, .int .u64 b, .string s] u)).alloc (.cells #[.int .u8 k', .int .u64 c, .string t] v)).alloc (ZC x)) w1) :
    w.heap.size + 1 + 1 < w1.heap.size ∧ w1.cell? ⟨w.heap.size, 0, none⟩ = some (.int .u8 k) ∧ w1.cell? ⟨w.heap.size, 1, none⟩ = some (.int .u64 b) ∧ w1.cell? ⟨w.heap.size, 2, none⟩ = some (.string s) ∧
    w1.cell? ⟨w.heap.size + 1, 0, none⟩ = some (.int .u8 k') ∧ w1.cell? ⟨w.heap.size + 1, 1, none⟩ = some (.int .u64 c) ∧ w1.cell? ⟨w.heap.size + 1, 2, none⟩ = some (.string t) ∧
    w1.cell? ⟨w.heap.size + 1 + 1, 0, none⟩ = some (.int .u8 0) ∧ w1.cell? ⟨w.heap.size + 1 + 1, 1, none⟩ = some (.int .u64 0) ∧ w1.cell? ⟨w.heap.size + 1 + 1, 2, none⟩ = some (.string ⟨#[]⟩) ∧
    (∀ o, w1.frozen? ⟨w.heap.size + 1 + 1, o, none⟩ = false) ∧ Below w.heap.size w w1 := by
  have hs := hb.size
  simp only [World.size_alloc] at hs
  refine ⟨by omega, ?_, ?_, ?_, ?_, ?_, ?_, ?_, ?_, ?_, ?_, ((((Below.refl _ _).alloc (Nat.le_refl _) _).alloc (by simp) _).alloc (by simp; omega) _).trans (hb.mono (by simp; omega))⟩
  · rw [hb.cell (p := ⟨w.heap.size, 0, none⟩) (by simp; omega)]; simp [ZC, go_sem]
  · rw [hb.cell (p := ⟨w.heap.size, 1, none⟩) (by simp; omega)]; simp [ZC, go_sem]
  · rw [hb.cell (p := ⟨w.heap.size, 2, none⟩) (by simp; omega)]; simp [ZC, go_sem]
  · rw [hb.cell (p := ⟨w.heap.size + 1, 0, none⟩) (by simp)]; simp [ZC, go_sem]
  · rw [hb.cell (p := ⟨w.heap.size + 1, 1, none⟩) (by simp)]; simp [ZC, go_sem]
  · rw [hb.cell (p := ⟨w.heap.size + 1, 2, none⟩) (by simp)]; simp [ZC, go_sem]
  · rw [hb.cell (p := ⟨w.heap.size + 1 + 1, 0, none⟩) (by simp)]; simp [ZC, go_sem]
  · rw [hb.cell (p := ⟨w.heap.size + 1 + 1, 1, none⟩) (by simp)]; simp [ZC, go_sem]
  · rw [hb.cell (p := ⟨w.heap.size + 1 + 1, 2, none⟩) (by simp)]; simp [ZC, go_sem]
  · intro o
    rw [hb.frozen (p := ⟨w.heap.size + 1 + 1, o, none⟩) (by simp)]; simp [ZC, go_sem]
/-- What a call that only makes memory leaves of three old blocks. -/
theorem step3 {W w2 : World} {h : Nat} (hb : Below W.heap.size W w2) (z : h + 1 + 1 < W.heap.size) :
    h + 1 + 1 < w2.heap.size ∧ (∀ o, w2.cell? ⟨h, o, none⟩ = W.cell? ⟨h, o, none⟩) ∧ (∀ o, w2.cell? ⟨h + 1, o, none⟩ = W.cell? ⟨h + 1, o, none⟩) ∧ (∀ o, w2.cell? ⟨h + 1 + 1, o, none⟩ = W.cell? ⟨h + 1 + 1, o, none⟩) ∧ (∀ o, w2.frozen? ⟨h + 1 + 1, o, none⟩ = W.frozen? ⟨h + 1 + 1, o, none⟩) :=
  ⟨Nat.lt_of_lt_of_le z hb.size, fun o => hb.cell (p := ⟨h, o, none⟩) (by show h < _; omega), fun o => hb.cell (p := ⟨h + 1, o, none⟩) (by show h + 1 < _; omega), fun o => hb.cell (p := ⟨h + 1 + 1, o, none⟩) z, fun o => hb.frozen (p := ⟨h + 1 + 1, o, none⟩) z⟩
/-- Is a value below another one of its kind; is it that one; is it above? -/
def cL (k b c : Int) (s t : ByteArray) : Bool := if k = 19 then Op.bytesLess s.toList t.toList else if k = 18 then FloatKind.f64.format.order b.toNat c.toNat == some .lt else decide (cmpI (num k b) (num k c) < 0)
def cE (k b c : Int) (s t : ByteArray) : Bool := if k = 19 then s.toList == t.toList else if k = 18 then FloatKind.f64.format.order b.toNat c.toNat == some .eq else (cmpI (num k b) (num k c) == 0)
def cM (k b c : Int) (s t : ByteArray) : Bool := if k = 19 then !Op.bytesLess s.toList t.toList && !(s.toList == t.toList) else if k = 18 then FloatKind.f64.format.order b.toNat c.toNat == some .gt else decide (0 < cmpI (num k b) (num k c))
section
variable (b c : Int) (s t : ByteArray) (w : World)
set_option maxHeartbeats 1000000 in
theorem compared_s : Calls Tryz.prog 179 #[V 19 b s, V 19 c t] w fun e w' => e = .returned (.tuple #[.bool (cL 19 b c s t), .bool (cE 19 b c s t), .bool (cM 19 b c s t)]) ∧ Below w.heap.size w w' := by
  have e1 : cL 19 b c s t = Op.bytesLess s.toList t.toList := by simp [cL]
  have e2 : cE 19 b c s t = (s.toList == t.toList) := by simp [cE]
  have e3 : cM 19 b c s t = (!Op.bytesLess s.toList t.toList && !(s.toList == t.toList)) := by simp [cM]
  rw [e1, e2, e3]
  clear e1 e2 e3
  go_enter Tryz.func179, Tryz.ntmps179
  go_wp2
  go_quiet (fail)
  go_wp2
  go_ret3
  exact ⟨rfl, bdN (((Below.refl _ _).alloc (Nat.le_refl _) _).alloc (by simp) _) _⟩
set_option maxHeartbeats 1000000 in
theorem compared_f : Calls Tryz.prog 179 #[V 18 b s, V 18 c t] w fun e w' => e = .returned (.tuple #[.bool (cL 18 b c s t), .bool (cE 18 b c s t), .bool (cM 18 b c s t)]) ∧ Below w.heap.size w w' := by
  have hx := call_frombits
  have e1 : cL 18 b c s t = (FloatKind.f64.format.order b.toNat c.toNat == some .lt) := by simp [cL]
  have e2 : cE 18 b c s t = (FloatKind.f64.format.order b.toNat c.toNat == some .eq) := by simp [cE]
  have e3 : cM 18 b c s t = (FloatKind.f64.format.order b.toNat c.toNat == some .gt) := by simp [cM]
  rw [e1, e2, e3]
  clear e1 e2 e3
  go_enter Tryz.func179, Tryz.ntmps179
  go_wp2
  go_quiet (fail)
  go_wp2
  go_ret3
  exact ⟨rfl, bdN (((Below.refl _ _).alloc (Nat.le_refl _) _).alloc (by simp) _) _⟩
set_option maxHeartbeats 1000000 in
theorem compared_n (k : Int) (h0 : 0 ≤ b) (h1 : b < 18446744073709551616) (g0 : 0 ≤ c) (g1 : c < 18446744073709551616) (k1 : (k == 19) = false) (k2 : (k == 18) = false) : Calls Tryz.prog 179 #[V k b s, V k c t] w fun e w' => e = .returned (.tuple #[.bool (cL k b c s t), .bool (cE k b c s t), .bool (cM k b c s t)]) ∧ Below w.heap.size w w' := by
  have n1 : ¬ k = 19 := by simpa using k1
  have n2 : ¬ k = 18 := by simpa using k2
  have e1 : cL k b c s t = decide (cmpI (num k b) (num k c) < 0) := by simp [cL, n1, n2]
  have e2 : cE k b c s t = (cmpI (num k b) (num k c) == 0) := by simp [cE, n1, n2]
  have e3 : cM k b c s t = decide (0 < cmpI (num k b) (num k c)) := by simp [cM, n1, n2]
  rw [e1, e2, e3]
  clear e1 e2 e3 n1 n2
  go_enter Tryz.func179, Tryz.ntmps179
  go_wp2
  refine wp_region_sub2 (by kernel_rfl) (by kernel_rfl) ?_
  intro cx
  repeat (first | go_big_quiet_skip | (go_big_quiet_want; go_big_quiet_op; first | go_big_quiet_on | (refine ⟨_, fun _ => rfl, ?_⟩; go_big_quiet_on) | go_big_quiet_call (first | (go_at_call 147; refine calls_sub (numberOf_of _ _ _ _ ?_ ?_) <;> assumption) | (go_at_call 203; exact calls_sub (order_of _ _ _)))))
  refine wpQuiet_nil ?_
  rintro _ ⟨x, rfl⟩
  go_wp2
  go_ret3
  exact ⟨rfl, (((Below.refl _ _).alloc (Nat.le_refl _) _).alloc (by simp) _).trans (x.h.mono (by simp; omega))⟩
theorem compared_of (k : Int) (h0 : 0 ≤ b) (h1 : b < 18446744073709551616) (g0 : 0 ≤ c) (g1 : c < 18446744073709551616) : Calls Tryz.prog 179 #[V k b s, V k c t] w fun e w' => e = .returned (.tuple #[.bool (cL k b c s t), .bool (cE k b c s t), .bool (cM k b c s t)]) ∧ Below w.heap.size w w' := by
  by_cases k1 : k = 19
  · subst k1; exact compared_s b c s t w
  by_cases k2 : k = 18
  · subst k2; exact compared_f b c s t w
  exact compared_n b c s t w k h0 h1 g0 g1 (by simpa using k1) (by simpa using k2)
/-- What a comparison says. -/
def hB (op k b c : Int) (s t : ByteArray) : Bool := if op = 9 then cE k b c s t else if op = 10 then !cE k b c s t else if op = 11 then cL k b c s t else if op = 12 then cL k b c s t || cE k b c s t else if op = 13 then cM k b c s t else cM k b c s t || cE k b c s t
set_option maxHeartbeats 2000000 in
theorem holds_of (op k : Int) (ho : 9 ≤ op ∧ op ≤ 14) (h0 : 0 ≤ b) (h1 : b < 18446744073709551616) (g0 : 0 ≤ c) (g1 : c < 18446744073709551616) : Calls Tryz.prog 141 #[.int .i64 op, V k b s, V k c t] w fun e w' => e = .returned (.bool (hB op k b c s t)) ∧ Below w.heap.size w w' := by
  have C : Hid _ := compared_of b c s t
  have : op = 9 ∨ op = 10 ∨ op = 11 ∨ op = 12 ∨ op = 13 ∨ op = 14 := by omega
  rcases this with rfl | rfl | rfl | rfl | rfl | rfl
  case inr.inr.inr.inl =>
    cases l : cL k b c s t
    all_goals
      go_enter Tryz.func141, Tryz.ntmps141
      go_wp2_with (first | (go_at_call 179; refine (C.out _ k h0 h1 g0 g1).mono ?_; rintro e w1 ⟨rfl, hb⟩))
      go_ret
      exact ⟨ret_bool (by simp [hB, l]), (((Below.refl _ _).alloc (Nat.le_refl _) _).alloc (by simp) _).trans (hb.mono (by simp; omega))⟩
  case inr.inr.inr.inr.inr =>
    cases l : cM k b c s t
    all_goals
      go_enter Tryz.func141, Tryz.ntmps141
      go_wp2_with (first | (go_at_call 179; refine (C.out _ k h0 h1 g0 g1).mono ?_; rintro e w1 ⟨rfl, hb⟩))
      go_ret
      exact ⟨ret_bool (by simp [hB, l]), (((Below.refl _ _).alloc (Nat.le_refl _) _).alloc (by simp) _).trans (hb.mono (by simp; omega))⟩
  all_goals
    go_enter Tryz.func141, Tryz.ntmps141
    go_wp2_with (first | (go_at_call 179; refine (C.out _ k h0 h1 g0 g1).mono ?_; rintro e w1 ⟨rfl, hb⟩))
    go_ret
    exact ⟨rfl, (((Below.refl _ _).alloc (Nat.le_refl _) _).alloc (by simp) _).trans (hb.mono (by simp; omega))⟩
def tb (p : Bool) : Int := if p then 1 else 0
set_option maxHeartbeats 400000 in
theorem Bool_of (p : Bool) (w : World) : Calls Tryz.prog 106 #[.bool p] w fun e w' => e = .returned (V 1 (tb p) E0) ∧ Below w.heap.size w w' := by
  cases p
  · go_enter Tryz.func106, Tryz.ntmps106
    go_wp2
    exact bodyPost_ret (v := V 1 0 E0) (by simp [results, Tryz.results106, go_sem]) rfl ⟨rfl, (Below.refl _ _).alloc (Nat.le_refl _) _⟩
  · go_enter Tryz.func106, Tryz.ntmps106
    go_wp2
    exact bodyPost_ret (v := V 1 1 E0) (by simp [results, Tryz.results106, go_sem]) rfl ⟨rfl, (Below.refl _ _).alloc (Nat.le_refl _) _⟩
end
end Go.Proofs.YtkanhbokdjppoaaGreatDoor
