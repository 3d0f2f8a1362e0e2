/- What the value package's six comparisons of two values of one kind come to, and how two values' boxes are read behind a call; no statement of the seat is proved here. -/
import Derived.Test.YtlaamkfpdompjaaGreatDoorLreal
import Derived.Test.YtlaamkfpdompjaaGreatDoorRecM
import Derived.Handy
import Derived.Deep.Light
import Derived.Deep.QuietTactic
import Derived.BigQuiet
namespace Go.Proofs.YtlaamkfpdompjaaGreatDoor
set_option linter.unusedVariables false
open Go.RowKit
theorem bdN {B : Nat} {a w : World} (h : Below B a w) (n : Nat) : Below B a (w.drewN n) := ⟨h.os, h.tape, h.output, h.size, h.block⟩
abbrev ZC (u : TypeId) : Obj := .cells #[.int .u8 0, .int .u64 0, .string ⟨#[]⟩] u
theorem may_w {k b : Int} {s : ByteArray} (c : may3 k b s = true) (h : ¬ k = 19) : mayW k b = true ∧ s.toList = [] := by
  simp [may3, h] at c; exact ⟨c.2, c.1⟩
theorem text_nil {k b : Int} {s : ByteArray} (c : may3 k b s = true) (h : ¬ k = 19) : s = E0 := (toList_nil_iff_emptyBytes s).1 (may_w c h).2
/-- Two values' boxes and a result's, behind a first call. -/
theorem step_ab0 {w w1 : World} {k b k' c : Int} {s t : ByteArray} {u v x : TypeId}
    (hb : Below (((w.alloc (.cells #[.int .u8 k, .int .u64 b, .string s] u)).alloc (.cells #[.int .u8 k', .int .u64 c, .string t] v)).alloc (ZC x)).heap.size (((w.alloc (.cells #[.int .u8 k, .int .u64 b, .string s] u)).alloc (.cells #[.int .u8 k', .int .u64 c, .string t] v)).alloc (ZC x)) w1) :
    w.heap.size + 1 + 1 < w1.heap.size ∧ w1.cell? ⟨w.heap.size, 0, none⟩ = some (.int .u8 k) ∧ w1.cell? ⟨w.heap.size, 1, none⟩ = some (.int .u64 b) ∧ w1.cell? ⟨w.heap.size, 2, none⟩ = some (.string s) ∧
    w1.cell? ⟨w.heap.size + 1, 0, none⟩ = some (.int .u8 k') ∧ w1.cell? ⟨w.heap.size + 1, 1, none⟩ = some (.int .u64 c) ∧ w1.cell? ⟨w.heap.size + 1, 2, none⟩ = some (.string t) ∧
    w1.cell? ⟨w.heap.size + 1 + 1, 0, none⟩ = some (.int .u8 0) ∧ w1.cell? ⟨w.heap.size + 1 + 1, 1, none⟩ = some (.int .u64 0) ∧ w1.cell? ⟨w.heap.size + 1 + 1, 2, none⟩ = some (.string ⟨#[]⟩) ∧
    (∀ o, w1.frozen? ⟨w.heap.size + 1 + 1, o, none⟩ = false) ∧ Below w.heap.size w w1 := by
  have hs := hb.size
  simp only [World.size_alloc] at hs
  refine ⟨by omega, ?_, ?_, ?_, ?_, ?_, ?_, ?_, ?_, ?_, ?_, ((((Below.refl _ _).alloc (Nat.le_refl _) _).alloc (by simp) _).alloc (by simp; omega) _).trans (hb.mono (by simp; omega))⟩
  · rw [hb.cell (p := ⟨w.heap.size, 0, none⟩) (by simp; omega)]; simp [ZC, go_sem]
  · rw [hb.cell (p := ⟨w.heap.size, 1, none⟩) (by simp; omega)]; simp [ZC, go_sem]
  · rw [hb.cell (p := ⟨w.heap.size, 2, none⟩) (by simp; omega)]; simp [ZC, go_sem]
  · rw [hb.cell (p := ⟨w.heap.size + 1, 0, none⟩) (by simp)]; simp [ZC, go_sem]
  · rw [hb.cell (p := ⟨w.heap.size + 1, 1, none⟩) (by simp)]; simp [ZC, go_sem]
  · rw [hb.cell (p := ⟨w.heap.size + 1, 2, none⟩) (by simp)]; simp [ZC, go_sem]
  · rw [hb.cell (p := ⟨w.heap.size + 1 + 1, 0, none⟩) (by simp)]; simp [ZC, go_sem]
  · rw [hb.cell (p := ⟨w.heap.size + 1 + 1, 1, none⟩) (by simp)]; simp [ZC, go_sem]
  · rw [hb.cell (p := ⟨w.heap.size + 1 + 1, 2, none⟩) (by simp)]; simp [ZC, go_sem]
  · intro o
    rw [hb.frozen (p := ⟨w.heap.size + 1 + 1, o, none⟩) (by simp)]; simp [ZC, go_sem]
/-- What a call that only makes memory leaves of three old blocks. -/
theorem step3 {W w2 : World} {h : Nat} (hb : Below W.heap.size W w2) (z : h + 1 + 1 < W.heap.size) :
    h + 1 + 1 < w2.heap.size ∧ (∀ o, w2.cell? ⟨h, o, none⟩ = W.cell? ⟨h, o, none⟩) ∧ (∀ o, w2.cell? ⟨h + 1, o, none⟩ = W.cell? ⟨h + 1, o, none⟩) ∧ (∀ o, w2.cell? ⟨h + 1 + 1, o, none⟩ = W.cell? ⟨h + 1 + 1, o, none⟩) ∧ (∀ o, w2.frozen? ⟨h + 1 + 1, o, none⟩ = W.frozen? ⟨h + 1 + 1, o, none⟩) :=
  ⟨Nat.lt_of_lt_of_le z hb.size, fun o => hb.cell (p := ⟨h, o, none⟩) (by show h < _; omega), fun o => hb.cell (p := ⟨h + 1, o, none⟩) (by show h + 1 < _; omega), fun o => hb.cell (p := ⟨h + 1 + 1, o, none⟩) z, fun o => hb.frozen (p := ⟨h + 1 + 1, o, none⟩) z⟩
/-- Is a value below another one of its kind; is it that one; is it above? -/
def cL (k b c : Int) (s t : ByteArray) : Bool := if k = 19 then Op.bytesLess s.toList t.toList else if k = 18 then FloatKind.f64.format.order b.toNat c.toNat == some .lt else decide (cmpI (num k b) (num k c) < 0)
def cE (k b c : Int) (s t : ByteArray) : Bool := if k = 19 then s.toList == t.toList else if k = 18 then FloatKind.f64.format.order b.toNat c.toNat == some .eq else (cmpI (num k b) (num k c) == 0)
def cM (k b c : Int) (s t : ByteArray) : Bool := if k = 19 then !Op.bytesLess s.toList t.toList && !(s.toList == t.toList) else if k = 18 then FloatKind.f64.format.order b.toNat c.toNat == some .gt else decide (0 < cmpI (num k b) (num k c))
section
variable (b c : Int) (s t : ByteArray) (w : World)
/-- What a comparison says. -/
def hB (op k b c : Int) (s t : ByteArray) : Bool := if op = 9 then cE k b c s t else if op = 10 then !cE k b c s t else if op = 11 then cL k b c s t else if op = 12 then cL k b c s t || cE k b c s t else if op = 13 then cM k b c s t else cM k b c s t || cE k b c s t
def tb (p : Bool) : Int := if p then 1 else 0
set_option maxHeartbeats 400000 in
theorem Bool_of (p : Bool) (w : World) : Calls Tryz.prog 24 #[.bool p] w fun e w' => e = .returned (V 1 (tb p) E0) ∧ Below w.heap.size w w' := by
  cases p
  · go_enter Tryz.func24, Tryz.ntmps24
    go_wp2
    exact bodyPost_ret (v := V 1 0 E0) (by simp [results, Tryz.results24, go_sem]) rfl ⟨rfl, (Below.refl _ _).alloc (Nat.le_refl _) _⟩
  · go_enter Tryz.func24, Tryz.ntmps24
    go_wp2
    exact bodyPost_ret (v := V 1 1 E0) (by simp [results, Tryz.results24, go_sem]) rfl ⟨rfl, (Below.refl _ _).alloc (Nat.le_refl _) _⟩
end
end Go.Proofs.YtlaamkfpdompjaaGreatDoor
