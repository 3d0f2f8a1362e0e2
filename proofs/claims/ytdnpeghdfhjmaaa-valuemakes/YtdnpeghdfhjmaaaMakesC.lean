/- What the value package's and the document's Text, Zero, Lreal, Bool, Number and Float answer; no statement of the seat is proved here. -/
import Derived.Test.YtdnpeghdfhjmaaaMakesA
namespace Go.Proofs.Ytdnpeghdfhjmaaa
set_option linter.unusedVariables false
open Go.RowKit
/-- The STRING of a text, or the fault. -/
def textR (s : ByteArray) : Value := if s.size ≤ 254 then .tuple #[V 19 0 s, .int .i64 0] else .tuple #[V 0 0 E0, .int .i64 5]
set_option maxHeartbeats 400000 in
theorem Text_of (s : ByteArray) (w : World) (hs : s.size ≤ maxLen) : Calls Try.prog 9 #[.string s] w fun e w' => e = .returned (textR s) ∧ Below w.heap.size w w' := by
  unfold maxLen at hs
  unfold textR
  by_cases c : s.size ≤ 254
  · rw [if_pos c]
    go_enter Try.func9, Try.ntmps9
    go_wp2
    exact bodyPost_ret (v := .tuple #[V 19 0 s, .int .i64 0]) (by simp [results, Try.results9, go_sem]) rfl ⟨rfl, (Below.refl _ _).alloc (Nat.le_refl _) _⟩
  · rw [if_neg c]
    go_enter Try.func9, Try.ntmps9
    go_wp2
    exact bodyPost_ret (v := .tuple #[V 0 0 E0, .int .i64 5]) (by simp [results, Try.results9, go_sem]) rfl ⟨rfl, (Below.refl _ _).alloc (Nat.le_refl _) _⟩
set_option maxHeartbeats 400000 in
theorem TextR_of (s : ByteArray) (w : World) (hs : s.size ≤ maxLen) : Calls Try.prog 10 #[.string s] w fun e w' => e = .returned (textR s) ∧ Below w.heap.size w w' := by
  unfold maxLen at hs
  unfold textR
  by_cases c : s.size ≤ 254
  · rw [if_pos c]
    go_enter Try.func10, Try.ntmps10
    go_wp2
    exact bodyPost_ret (v := .tuple #[V 19 0 s, .int .i64 0]) (by simp [results, Try.results10, go_sem]) rfl ⟨rfl, (Below.refl _ _).alloc (Nat.le_refl _) _⟩
  · rw [if_neg c]
    go_enter Try.func10, Try.ntmps10
    go_wp2
    exact bodyPost_ret (v := .tuple #[V 0 0 E0, .int .i64 5]) (by simp [results, Try.results10, go_sem]) rfl ⟨rfl, (Below.refl _ _).alloc (Nat.le_refl _) _⟩
/-- The kind of a kind's zero. -/
def zeroK (k : Int) : Int := if 1 ≤ k ∧ k ≤ 19 then k else 0
set_option maxHeartbeats 400000 in
theorem Zero_of (k : Int) (w : World) : Calls Try.prog 12 #[.int .u8 k] w fun e w' => e = .returned (V (zeroK k) 0 E0) ∧ Below w.heap.size w w' := by
  by_cases a : 1 ≤ k
  · by_cases b : k ≤ 19
    · have z : zeroK k = k := by simp [zeroK, a, b]
      rw [z]
      clear z
      go_enter Try.func12, Try.ntmps12
      go_wp2
      exact bodyPost_ret (v := V k 0 E0) (by simp [results, Try.results12, go_sem]) rfl ⟨rfl, (Below.refl _ _).alloc (Nat.le_refl _) _⟩
    · have z : zeroK k = 0 := by simp [zeroK, a, b]
      rw [z]
      clear z
      go_enter Try.func12, Try.ntmps12
      go_wp2
      exact bodyPost_ret (v := V 0 0 E0) (by simp [results, Try.results12, go_sem]) rfl ⟨rfl, (Below.refl _ _).alloc (Nat.le_refl _) _⟩
  · have z : zeroK k = 0 := by simp [zeroK, a]
    rw [z]
    clear z
    go_enter Try.func12, Try.ntmps12
    go_wp2
    exact bodyPost_ret (v := V 0 0 E0) (by simp [results, Try.results12, go_sem]) rfl ⟨rfl, (Below.refl _ _).alloc (Nat.le_refl _) _⟩
set_option maxHeartbeats 400000 in
theorem ZeroR_of (k : Int) (w : World) : Calls Try.prog 13 #[.int .u8 k] w fun e w' => e = .returned (V (zeroK k) 0 E0) ∧ Below w.heap.size w w' := by
  by_cases a : 1 ≤ k
  · by_cases b : k ≤ 19
    · have z : zeroK k = k := by simp [zeroK, a, b]
      rw [z]
      clear z
      go_enter Try.func13, Try.ntmps13
      go_wp2
      exact bodyPost_ret (v := V k 0 E0) (by simp [results, Try.results13, go_sem]) rfl ⟨rfl, (Below.refl _ _).alloc (Nat.le_refl _) _⟩
    · have z : zeroK k = 0 := by simp [zeroK, a, b]
      rw [z]
      clear z
      go_enter Try.func13, Try.ntmps13
      go_wp2
      exact bodyPost_ret (v := V 0 0 E0) (by simp [results, Try.results13, go_sem]) rfl ⟨rfl, (Below.refl _ _).alloc (Nat.le_refl _) _⟩
  · have z : zeroK k = 0 := by simp [zeroK, a]
    rw [z]
    clear z
    go_enter Try.func13, Try.ntmps13
    go_wp2
    exact bodyPost_ret (v := V 0 0 E0) (by simp [results, Try.results13, go_sem]) rfl ⟨rfl, (Below.refl _ _).alloc (Nat.le_refl _) _⟩
set_option maxHeartbeats 400000 in
theorem LrealR_of (n : Nat) (w : World) :
    Calls Try.prog 15 #[.float .f64 n] w fun e w' => e = .returned (V 18 (lrealB n) E0) ∧ Below w.heap.size w w' := by
  have hx := call_bits
  cases h : fnan n
  · have g : (FloatKind.f64.format.order n n != some .eq) = false := by rw [order_self_ne, h]
    rw [lrealB_f h]
    clear h
    go_enter Try.func15, Try.ntmps15
    go_wp2
    exact bodyPost_ret (v := V 18 n E0) (by simp [results, Try.results15, go_sem]) rfl ⟨rfl, (Below.refl _ _).alloc (Nat.le_refl _) _⟩
  · have g : (FloatKind.f64.format.order n n != some .eq) = true := by rw [order_self_ne, h]
    rw [lrealB_t h]
    clear h
    go_enter Try.func15, Try.ntmps15
    go_wp2
    exact bodyPost_ret (v := V 18 9221120237041090561 E0) (by simp [results, Try.results15, go_sem]) rfl ⟨rfl, (Below.refl _ _).alloc (Nat.le_refl _) _⟩
/-- TRUE's or FALSE's bits. -/
def tb (p : Bool) : Int := if p then 1 else 0
set_option maxHeartbeats 400000 in
theorem Bool_of (p : Bool) (w : World) : Calls Try.prog 20 #[.bool p] w fun e w' => e = .returned (V 1 (tb p) E0) ∧ Below w.heap.size w w' := by
  cases p
  · go_enter Try.func20, Try.ntmps20
    go_wp2
    exact bodyPost_ret (v := V 1 0 E0) (by simp [results, Try.results20, go_sem]) rfl ⟨rfl, (Below.refl _ _).alloc (Nat.le_refl _) _⟩
  · go_enter Try.func20, Try.ntmps20
    go_wp2
    exact bodyPost_ret (v := V 1 1 E0) (by simp [results, Try.results20, go_sem]) rfl ⟨rfl, (Below.refl _ _).alloc (Nat.le_refl _) _⟩
set_option maxHeartbeats 400000 in
theorem BoolR_of (p : Bool) (w : World) : Calls Try.prog 21 #[.bool p] w fun e w' => e = .returned (V 1 (tb p) E0) ∧ Below w.heap.size w w' := by
  cases p
  · go_enter Try.func21, Try.ntmps21
    go_wp2
    exact bodyPost_ret (v := V 1 0 E0) (by simp [results, Try.results21, go_sem]) rfl ⟨rfl, (Below.refl _ _).alloc (Nat.le_refl _) _⟩
  · go_enter Try.func21, Try.ntmps21
    go_wp2
    exact bodyPost_ret (v := V 1 1 E0) (by simp [results, Try.results21, go_sem]) rfl ⟨rfl, (Below.refl _ _).alloc (Nat.le_refl _) _⟩
end Go.Proofs.Ytdnpeghdfhjmaaa
