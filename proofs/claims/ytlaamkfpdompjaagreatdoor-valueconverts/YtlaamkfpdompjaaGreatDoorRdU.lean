/- What the document's fromText answers of every text, for an integer kind; no statement of the seat is proved here. -/
import Derived.Test.YtlaamkfpdompjaaGreatDoorRdS
namespace Go.Proofs.YtlaamkfpdompjaaGreatDoor
set_option linter.unusedVariables false
open Go.RowKit
theorem dgO_bd (l : List UInt8) (u : Int) (h : dgO l = some u) : 0 ≤ u ∧ u < 18446744073709551616 := by
  unfold dgO at h
  by_cases c : l = [] ∨ 20 < l.length ∨ (1 < l.length ∧ l.head? = some 48)
  · rw [if_pos c] at h; cases h
  · rw [if_neg c] at h
    have b := rdL_bd _ 0 u (by omega) (by omega) h
    simp only [Int.zero_mul] at b
    omega
section
variable (k : Int) (s : ByteArray) (w : World)
set_option maxRecDepth 100000 in
set_option maxHeartbeats 2000000 in
theorem fromTextR_go (hk : 2 ≤ k ∧ k ≤ 9) (p : Bool) (d : ByteArray) (way : (p = false ∧ d = s ∧ (s.size ≤ 1 ∨ ∃ h : 1 < s.size, ¬ (s[0].toNat : Int) = 45)) ∨ (p = true ∧ s.extract 1 s.size = d ∧ ∃ h : 1 < s.size, (s[0].toNat : Int) = 45)) (hd : d.size ≤ maxLen) (hs : s.size ≤ maxLen) :
    Calls Tryz.prog 18 #[.int .u8 k, .string s] w fun e w' => e = .returned (match dgO d.data.toList with | none => .tuple #[V 0 0 E0, .int .i64 7] | some u => if p = true ∧ u = 0 then .tuple #[V 0 0 E0, .int .i64 7] else szV k (if p then -u else u)) ∧ Below w.heap.size w w' := by
  have hm : s.size ≤ 9223372036854775807 := hs
  have hk' : 0 ≤ k ∧ k < 256 := by omega
  have k1 : (k == 1) = false := by simp; omega
  have D0 : Hid _ := fun w => digitsR1_of d w hd
  have ub := dgO_bd d.data.toList
  cases o : dgO d.data.toList with
  | none =>
    rw [o] at D0
    have D : Hid (∀ w, Calls Tryz.prog 41 #[.string d] w fun e w' => e = .returned (.tuple #[.int .u64 0, .bool false]) ∧ w' = w) := D0.out
    clear D0 ub o
    simp only
    rcases way with ⟨rfl, rfl, s1 | ⟨s1, s2⟩⟩ | ⟨rfl, ed, s1, s2⟩
    · have s1' : ¬ (1 : Int) < d.size := by omega
      go_enter Tryz.func18, Tryz.ntmps18
      go_wp2_with (first
        | (go_at_call 40; refine (IntegerR_is k _ true hk' (by symm; simp; omega)).mono ?_; rintro e w1 ⟨rfl, rfl⟩)
        | (go_at_call 41; refine (D.out _).mono ?_; rintro e w2 ⟨rfl, rfl⟩))
      exact bodyPost_ret (v := .tuple #[V 0 0 E0, .int .i64 7]) (by simp [results, Tryz.results18, go_sem]) rfl ⟨rfl, by go_grown⟩
    · have s1' : (1 : Int) < d.size := by omega
      have s2' : ((d[0].toNat : Int) == 45) = false := by simpa using s2
      go_enter Tryz.func18, Tryz.ntmps18
      go_wp2_with (first
        | (go_at_call 40; refine (IntegerR_is k _ true hk' (by symm; simp; omega)).mono ?_; rintro e w1 ⟨rfl, rfl⟩)
        | (go_at_call 41; refine (D.out _).mono ?_; rintro e w2 ⟨rfl, rfl⟩))
      exact bodyPost_ret (v := .tuple #[V 0 0 E0, .int .i64 7]) (by simp [results, Tryz.results18, go_sem]) rfl ⟨rfl, by go_grown⟩
    · have s1' : (1 : Int) < s.size := by omega
      have ED : Hid (s.extract 1 s.size = d) := ed
      clear ed
      go_enter Tryz.func18, Tryz.ntmps18
      go_wp2_with (first
        | (go_at_call 40; refine (IntegerR_is k _ true hk' (by symm; simp; omega)).mono ?_; rintro e w1 ⟨rfl, rfl⟩)
        | (go_at_call 41; rw [ED.out]; refine (D.out _).mono ?_; rintro e w2 ⟨rfl, rfl⟩))
      exact bodyPost_ret (v := .tuple #[V 0 0 E0, .int .i64 7]) (by simp [results, Tryz.results18, go_sem]) rfl ⟨rfl, by go_grown⟩
  | some u =>
    rw [o] at D0
    obtain ⟨u0, u1⟩ := ub u o
    have D : Hid (∀ w, Calls Tryz.prog 41 #[.string d] w fun e w' => e = .returned (.tuple #[.int .u64 u, .bool true]) ∧ w' = w) := D0.out
    clear D0 ub o
    simp only
    have form : ∃ k' b' g, szV k (if p then -u else u) = .tuple #[V k' b' E0, .int .i64 g] := by
      generalize (if p then -u else u) = N
      unfold szV
      cases fitOk k N with
      | true => exact ⟨_, _, _, rfl⟩
      | false => exact ⟨_, _, _, rfl⟩
    obtain ⟨k', b', g, eq⟩ := form
    rcases way with ⟨rfl, rfl, s1⟩ | ⟨rfl, ed, s1, s2⟩
    · have SZ0 : Hid _ := fun w => sizedR_pos k w u (by omega) u0 u1
      simp only [Bool.false_eq_true, if_false] at eq ⊢
      rw [eq] at SZ0
      rw [if_neg (fun h => by cases h.1), eq]
      have SZ : Hid (∀ w, Calls Tryz.prog 39 #[.int .u8 k, .int .u64 u, .bool false] w fun e w' => e = .returned (.tuple #[V k' b' E0, .int .i64 g]) ∧ Below w.heap.size w w') := SZ0.out
      clear SZ0 eq
      rcases s1 with s1 | ⟨s1, s2⟩
      · have s1' : ¬ (1 : Int) < d.size := by omega
        go_enter Tryz.func18, Tryz.ntmps18
        go_wp2_with (first
          | (go_at_call 40; refine (IntegerR_is k _ true hk' (by symm; simp; omega)).mono ?_; rintro e w1 ⟨rfl, rfl⟩)
          | (go_at_call 41; refine (D.out _).mono ?_; rintro e w2 ⟨rfl, rfl⟩)
          | (go_at_call 39; refine (SZ.out _).mono ?_; rintro e w4 ⟨rfl, hb4⟩; obtain ⟨y0, p0, p1, p2, p6, PB⟩ := boxD hb4; clear hb4))
        exact bodyPost_ret (v := .tuple #[V k' b' E0, .int .i64 g]) (by simp [results, Tryz.results18, go_sem, p0, p1, p2]) rfl ⟨rfl, ((PB.setCell (by simp) _).setCell (by simp) _).setCell (by simp) _⟩
      · have s1' : (1 : Int) < d.size := by omega
        have s2' : ((d[0].toNat : Int) == 45) = false := by simpa using s2
        go_enter Tryz.func18, Tryz.ntmps18
        go_wp2_with (first
          | (go_at_call 40; refine (IntegerR_is k _ true hk' (by symm; simp; omega)).mono ?_; rintro e w1 ⟨rfl, rfl⟩)
          | (go_at_call 41; refine (D.out _).mono ?_; rintro e w2 ⟨rfl, rfl⟩)
          | (go_at_call 39; refine (SZ.out _).mono ?_; rintro e w4 ⟨rfl, hb4⟩; obtain ⟨y0, p0, p1, p2, p6, PB⟩ := boxD hb4; clear hb4))
        exact bodyPost_ret (v := .tuple #[V k' b' E0, .int .i64 g]) (by simp [results, Tryz.results18, go_sem, p0, p1, p2]) rfl ⟨rfl, ((PB.setCell (by simp) _).setCell (by simp) _).setCell (by simp) _⟩
    · have s1' : (1 : Int) < s.size := by omega
      have ED : Hid (s.extract 1 s.size = d) := ed
      clear ed
      simp only [if_true] at eq ⊢
      by_cases z : u = 0
      · subst z
        rw [if_pos (by simp)]
        clear eq
        go_enter Tryz.func18, Tryz.ntmps18
        go_wp2_with (first
          | (go_at_call 40; refine (IntegerR_is k _ true hk' (by symm; simp; omega)).mono ?_; rintro e w1 ⟨rfl, rfl⟩)
          | (go_at_call 41; rw [ED.out]; refine (D.out _).mono ?_; rintro e w2 ⟨rfl, rfl⟩))
        exact bodyPost_ret (v := .tuple #[V 0 0 E0, .int .i64 7]) (by simp [results, Tryz.results18, go_sem]) rfl ⟨rfl, by go_grown⟩
      · have SZ0 : Hid _ := fun w => sizedR_neg k w u (by omega) (by omega) u1
        rw [eq] at SZ0
        rw [if_neg (fun h => z h.2), eq]
        have SZ : Hid (∀ w, Calls Tryz.prog 39 #[.int .u8 k, .int .u64 u, .bool true] w fun e w' => e = .returned (.tuple #[V k' b' E0, .int .i64 g]) ∧ Below w.heap.size w w') := SZ0.out
        have z' : (u == 0) = false := by simpa using z
        clear SZ0 eq
        go_enter Tryz.func18, Tryz.ntmps18
        go_wp2_with (first
          | (go_at_call 40; refine (IntegerR_is k _ true hk' (by symm; simp; omega)).mono ?_; rintro e w1 ⟨rfl, rfl⟩)
          | (go_at_call 41; rw [ED.out]; refine (D.out _).mono ?_; rintro e w2 ⟨rfl, rfl⟩)
          | (go_at_call 39; refine (SZ.out _).mono ?_; rintro e w4 ⟨rfl, hb4⟩; obtain ⟨y0, p0, p1, p2, p6, PB⟩ := boxD hb4; clear hb4))
        exact bodyPost_ret (v := .tuple #[V k' b' E0, .int .i64 g]) (by simp [results, Tryz.results18, go_sem, p0, p1, p2]) rfl ⟨rfl, ((PB.setCell (by simp) _).setCell (by simp) _).setCell (by simp) _⟩
end
end Go.Proofs.YtlaamkfpdompjaaGreatDoor
