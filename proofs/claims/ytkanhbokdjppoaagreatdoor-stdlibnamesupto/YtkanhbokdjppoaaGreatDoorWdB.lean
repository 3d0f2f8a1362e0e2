/- What value.Kind and the document's Kind answer; no statement of the seat is proved here. -/
import Derived.Test.YtkanhbokdjppoaaGreatDoorWdA
namespace Go.Proofs.YtkanhbokdjppoaaGreatDoor
set_option linter.unusedVariables false
open Go.RowKit
/-- The first kind from i on, of n, with that word. -/
def kfind (s : ByteArray) : Nat → Nat → Option Nat
  | _, 0 => none
  | i, n + 1 => if ((kw i).toList == s.toList) = true then some i else kfind s (i + 1) n
def kdR (s : ByteArray) : Value := match kfind s 1 19 with
  | some k => .tuple #[.int .u8 (k : Int), .bool true]
  | none => .tuple #[.int .u8 0, .bool false]
theorem kfind_step (s : ByteArray) (i : Nat) (h : 1 ≤ i ∧ i ≤ 19) (hn : ((kw i).toList == s.toList) = false) : kfind s i (20 - i) = kfind s (i + 1) (20 - (i + 1)) := by
  obtain ⟨n, hn'⟩ : ∃ n, 20 - i = n + 1 := ⟨19 - i, by omega⟩
  rw [hn', kfind, if_neg (by simp [hn]), show 20 - (i + 1) = n by omega]
theorem kfind_here (s : ByteArray) (i : Nat) (h : 1 ≤ i ∧ i ≤ 19) (hn : ((kw i).toList == s.toList) = true) : kfind s i (20 - i) = some i := by
  obtain ⟨n, hn'⟩ : ∃ n, 20 - i = n + 1 := ⟨19 - i, by omega⟩
  rw [hn', kfind, if_pos hn]
set_option maxHeartbeats 1000000 in
theorem Kind_of (s : ByteArray) (w : World) (hw : KW w) : Calls Tryz.prog 39 #[.string s] w fun e w' => e = .returned (kdR s) ∧ w' = w := by
  have HW : Hid (KW w) := hw
  clear hw
  go_enter Tryz.func39, Tryz.ntmps39
  go_wp2
  go_loop [4] (fun k => ∃ i : Nat, 1 ≤ i ∧ i ≤ 20 ∧ k = .int .u8 (i : Int) ∧ Hid (kfind s 1 19 = kfind s i (20 - i))) (fun k => (20 - intOf k).toNat)
  case atStart => exact ⟨1, by omega, by omega, rfl, rfl⟩
  case round =>
    obtain ⟨i, h1, h2, rfl, HI⟩ := hrel
    by_cases c : i ≤ 19
    · have c' : (i : Int) ≤ 19 := by omega
      have C := HW.out.cl i (by omega)
      cases e : ((kw i).toList == s.toList)
      case true =>
        have R : Hid (kdR s = .tuple #[.int .u8 (i : Int), .bool true]) := by show _ = _; unfold kdR; rw [HI.out, kfind_here s i ⟨h1, c⟩ e]
        generalize hkw : kw i = t at *
        clear hkw
        go_wp2
        exact bodyPost_ret (v := .tuple #[.int .u8 (i : Int), .bool true]) (by simp [results, Tryz.results39, go_sem]) rfl ⟨by rw [R.out], rfl⟩
      case false =>
        have HN : Hid (kfind s 1 19 = kfind s (i + 1) (20 - (i + 1))) := by show _ = _; rw [HI.out, kfind_step s i ⟨h1, c⟩ e]
        generalize hkw : kw i = t at *
        clear hkw
        go_wp2
        refine ⟨⟨i + 1, by omega, by omega, by push_cast; rfl, HN.out⟩, ?_⟩
        simp [intOf]
        omega
    · have c' : ¬ (i : Int) ≤ 19 := by omega
      have R : Hid (kdR s = .tuple #[.int .u8 0, .bool false]) := by
        show _ = _; unfold kdR; rw [HI.out, show 20 - i = 0 by omega]; rfl
      go_wp2
      exact bodyPost_ret (v := .tuple #[.int .u8 0, .bool false]) (by simp [results, Tryz.results39, go_sem]) rfl ⟨by rw [R.out], rfl⟩
set_option maxHeartbeats 1000000 in
theorem KindR_of (s : ByteArray) (w : World) : Calls Tryz.prog 42 #[.string s] w fun e w' => e = .returned (kdR s) ∧ Below w.heap.size w w' := by
  go_enter Tryz.func42, Tryz.ntmps42
  go_wp2
  go_loopw [4] (fun k wr => ∃ i : Nat, 1 ≤ i ∧ i ≤ 20 ∧ k = .int .u8 (i : Int) ∧ Hid (kfind s 1 19 = kfind s i (20 - i)) ∧ Below w.heap.size w wr) (fun k _ => (20 - intOf k).toNat)
  case atStart => exact ⟨1, by omega, by omega, rfl, rfl, Below.refl _ _⟩
  case round =>
    obtain ⟨i, h1, h2, rfl, HI, B0⟩ := hrel
    have B : Hid _ := B0
    clear B0
    by_cases c : i ≤ 19
    · have c' : (i : Int) ≤ 19 := by omega
      have C : Hid (∀ w, Calls Tryz.prog 30 #[.int .u8 (i : Int)] w fun e w' => e = .returned (.string (kw i)) ∧ Below w.heap.size w w') := fun w => by
        have := WordR_of (i : Int) w (by omega)
        unfold wdS at this
        rw [if_pos (by omega)] at this
        simpa using this
      cases e : ((kw i).toList == s.toList)
      case true =>
        have R : Hid (kdR s = .tuple #[.int .u8 (i : Int), .bool true]) := by show _ = _; unfold kdR; rw [HI.out, kfind_here s i ⟨h1, c⟩ e]
        generalize hkw : kw i = t at *
        clear hkw
        go_wp2_with (go_at_call 30; refine (C.out _).mono ?_; rintro e w2 ⟨rfl, hb⟩)
        exact bodyPost_ret (v := .tuple #[.int .u8 (i : Int), .bool true]) (by simp [results, Tryz.results42, go_sem]) rfl ⟨by rw [R.out], B.out.trans (hb.mono B.out.size)⟩
      case false =>
        have HN : Hid (kfind s 1 19 = kfind s (i + 1) (20 - (i + 1))) := by show _ = _; rw [HI.out, kfind_step s i ⟨h1, c⟩ e]
        generalize hkw : kw i = t at *
        clear hkw
        go_wp2_with (go_at_call 30; refine (C.out _).mono ?_; rintro e w2 ⟨rfl, hb⟩)
        refine ⟨⟨i + 1, by omega, by omega, by push_cast; rfl, HN.out, B.out.trans (hb.mono B.out.size)⟩, ?_⟩
        simp [intOf]
        omega
    · have c' : ¬ (i : Int) ≤ 19 := by omega
      have R : Hid (kdR s = .tuple #[.int .u8 0, .bool false]) := by
        show _ = _; unfold kdR; rw [HI.out, show 20 - i = 0 by omega]; rfl
      go_wp2
      exact bodyPost_ret (v := .tuple #[.int .u8 0, .bool false]) (by simp [results, Tryz.results42, go_sem]) rfl ⟨by rw [R.out], B.out⟩
end Go.Proofs.YtkanhbokdjppoaaGreatDoor
