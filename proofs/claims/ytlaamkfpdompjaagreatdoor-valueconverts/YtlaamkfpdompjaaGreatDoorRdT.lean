/- What fromText of value answers of every text, for an integer kind; no statement of the seat is proved here. -/
import Derived.Test.YtlaamkfpdompjaaGreatDoorRdX
namespace Go.Proofs.YtlaamkfpdompjaaGreatDoor
set_option linter.unusedVariables false
open Go.RowKit
theorem txC_bd (l : List UInt8) (n : Int) (h : txC l = some n) : -18446744073709551616 < n ∧ n < 18446744073709551616 := by
  unfold txC at h
  generalize (if l.head? = some 45 then l.tail else l) = d at h
  by_cases c : d = [] ∨ (d.head? = some 48 ∧ ¬ l = [48])
  · rw [if_pos c] at h; cases h
  · rw [if_neg c] at h
    cases q : rdL d 0 with
    | none => rw [q] at h; cases h
    | some u =>
      rw [q] at h
      have b := rdL_bd _ 0 u (by omega) (by omega) q
      simp only [Int.zero_mul] at b
      have e : (if l.head? = some 45 then -u else u) = n := Option.some.inj h
      split at e <;> omega
/-- A text as a value of an integer kind. -/
def txV (k : Int) (o : Option Int) : Value := match o with
  | none => .tuple #[V 0 0 E0, .int .i64 7]
  | some n => if fitOk k n = true then .tuple #[V k (n % 18446744073709551616) E0, .int .i64 0] else .tuple #[V 0 0 E0, .int .i64 7]
set_option maxRecDepth 100000 in
set_option maxHeartbeats 1000000 in
theorem fromTextC (k : Int) (s : ByteArray) (w : World) (hk : 2 ≤ k ∧ k ≤ 9) (hs : s.size ≤ maxLen) : Calls Tryz.prog 11 #[.int .u8 k, .string s] w fun e w' => e = .returned (txV k (txC s.data.toList)) ∧ Below w.heap.size w w' := by
  have k1 : (k == 1) = false := by simp; omega
  have R0 : Hid _ := fun w => readNumber_exact s w hs
  have bd := txC_bd s.data.toList
  have hk' : 0 ≤ k ∧ k < 256 := by omega
  cases o : txC s.data.toList with
  | none =>
    rw [o] at R0
    have R : Hid (∀ w, Calls Tryz.prog 29 #[.string s] w fun e w' => e = .returned (.tuple #[NB 0, .bool false]) ∧ Below w.heap.size w w') := R0.out
    clear R0 bd o
    go_enter Tryz.func11, Tryz.ntmps11
    go_wp2_with (first
      | (go_at_call 25; refine (isInteger_is k _ true hk' (by symm; simp; omega)).mono ?_; rintro e w1 ⟨rfl, rfl⟩)
      | (go_at_call 29; refine (R.out _).mono ?_; rintro e w2 ⟨rfl, hb⟩; obtain ⟨z0, q0, q1, q2, q6, HB⟩ := step_zeroC hb; clear hb))
    exact bodyPost_ret (v := .tuple #[V 0 0 E0, .int .i64 7]) (by simp [results, Tryz.results11, go_sem, q0, q1, q2, z0]) rfl ⟨rfl, by go_grown⟩
  | some n =>
    rw [o] at R0
    have nb := bd n o
    have R : Hid (∀ w, Calls Tryz.prog 29 #[.string s] w fun e w' => e = .returned (.tuple #[NB n, .bool true]) ∧ Below w.heap.size w w') := R0.out
    have F0 : Hid _ := fun w => fitted_of k n 7 w hk' nb
    unfold txV
    simp only
    clear R0 bd o
    cases ok : fitOk k n
    · rw [ok] at F0
      have F : Hid (∀ w, Calls Tryz.prog 28 #[.int .u8 k, NB n, .int .i64 7] w fun e w' => e = .returned (.tuple #[V 0 0 E0, .int .i64 7]) ∧ Below w.heap.size w w') := F0.out
      rw [if_neg (by simp)]
      clear F0 ok
      go_enter Tryz.func11, Tryz.ntmps11
      go_wp2_with (first
        | (go_at_call 25; refine (isInteger_is k _ true hk' (by symm; simp; omega)).mono ?_; rintro e w1 ⟨rfl, rfl⟩)
        | (go_at_call 29; refine (R.out _).mono ?_; rintro e w2 ⟨rfl, hb⟩; obtain ⟨z0, q0, q1, q2, q6, HB⟩ := step_zeroC hb; clear hb)
        | (go_at_call 28; refine (F.out _).mono ?_; rintro e w4 ⟨rfl, hb4⟩; obtain ⟨y0, p0, p1, p2, p6, PB⟩ := boxC z0 q0 q1 q2 q6 HB hb4; clear hb4))
      exact bodyPost_ret (v := .tuple #[V 0 0 E0, .int .i64 7]) (by simp [results, Tryz.results11, go_sem, p0, p1, p2]) rfl ⟨rfl, ((PB.setCell (by simp) _).setCell (by simp) _).setCell (by simp) _⟩
    · rw [ok] at F0
      have F : Hid (∀ w, Calls Tryz.prog 28 #[.int .u8 k, NB n, .int .i64 7] w fun e w' => e = .returned (.tuple #[V k (n % 18446744073709551616) E0, .int .i64 0]) ∧ Below w.heap.size w w') := F0.out
      rw [if_pos rfl]
      clear F0 ok
      generalize n % 18446744073709551616 = b at *
      go_enter Tryz.func11, Tryz.ntmps11
      go_wp2_with (first
        | (go_at_call 25; refine (isInteger_is k _ true hk' (by symm; simp; omega)).mono ?_; rintro e w1 ⟨rfl, rfl⟩)
        | (go_at_call 29; refine (R.out _).mono ?_; rintro e w2 ⟨rfl, hb⟩; obtain ⟨z0, q0, q1, q2, q6, HB⟩ := step_zeroC hb; clear hb)
        | (go_at_call 28; refine (F.out _).mono ?_; rintro e w4 ⟨rfl, hb4⟩; obtain ⟨y0, p0, p1, p2, p6, PB⟩ := boxC z0 q0 q1 q2 q6 HB hb4; clear hb4))
      exact bodyPost_ret (v := .tuple #[V k b E0, .int .i64 0]) (by simp [results, Tryz.results11, go_sem, p0, p1, p2]) rfl ⟨rfl, ((PB.setCell (by simp) _).setCell (by simp) _).setCell (by simp) _⟩
end Go.Proofs.YtlaamkfpdompjaaGreatDoor
