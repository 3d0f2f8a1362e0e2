/- What value's conversions of floats answer, exactly; no statement of the seat is proved here. -/
import Derived.Test.YtpaibmganlaaeaaGreatDoorFz12
import Derived.Test.YtpaibmganlaaeaaGreatDoorFz03
import Derived.Test.YtpaibmganlaaeaaGreatDoorFz05
import Derived.Test.YtpaibmganlaaeaaGreatDoorFz11
import Derived.Test.YtpaibmganlaaeaaGreatDoorFz09
import Derived.Laws.BitsAllLaws
namespace Go.Proofs.YtpaibmganlaaeaaGreatDoor
set_option linter.unusedVariables false
open Go.RowKit
theorem txC_bd (l : List UInt8) (n : Int) (h : txC l = some n) : -18446744073709551616 < n ∧ n < 18446744073709551616 := by
  unfold txC at h
  generalize (if l.head? = some 45 then l.tail else l) = d at h
  by_cases c : d = [] ∨ (d.head? = some 48 ∧ ¬ l = [48])
  · rw [if_pos c] at h; cases h
  · rw [if_neg c] at h
    cases q : rdL d 0 with
    | none => rw [q] at h; cases h
    | some u =>
      rw [q] at h
      have b := rdL_bd _ 0 u (by omega) (by omega) q
      simp only [Int.zero_mul] at b
      have e : (if l.head? = some 45 then -u else u) = n := Option.some.inj h
      split at e <;> omega
/-- A text as a value of an integer kind. -/
def txV (k : Int) (o : Option Int) : Value := match o with
  | none => .tuple #[V 0 0 E0, .int .i64 7]
  | some n => if fitOk k n = true then .tuple #[V k (n % 18446744073709551616) E0, .int .i64 0] else .tuple #[V 0 0 E0, .int .i64 7]
set_option maxRecDepth 100000 in
set_option maxHeartbeats 1000000 in
theorem fromTextC (k : Int) (s : ByteArray) (w : World) (hk : 2 ≤ k ∧ k ≤ 9) (hs : s.size ≤ maxLen) : Calls Tryz.prog 141 #[.int .u8 k, .string s] w fun e w' => e = .returned (txV k (txC s.data.toList)) ∧ Below w.heap.size w w' := by
  have k1 : (k == 1) = false := by simp; omega
  have R0 : Hid _ := fun w => readNumber_exact s w hs
  have bd := txC_bd s.data.toList
  have hk' : 0 ≤ k ∧ k < 256 := by omega
  cases o : txC s.data.toList with
  | none =>
    rw [o] at R0
    have R : Hid (∀ w, Calls Tryz.prog 163 #[.string s] w fun e w' => e = .returned (.tuple #[NB 0, .bool false]) ∧ Below w.heap.size w w') := R0.out
    clear R0 bd o
    go_enter Tryz.func141, Tryz.ntmps141
    go_wp2_with (first
      | (go_at_call 133; refine (isInteger_is k _ true hk' (by symm; simp; omega)).mono ?_; rintro e w1 ⟨rfl, rfl⟩)
      | (go_at_call 163; refine (R.out _).mono ?_; rintro e w2 ⟨rfl, hb⟩; obtain ⟨z0, q0, q1, q2, q6, HB⟩ := step_zeroC hb; clear hb))
    exact bodyPost_ret (v := .tuple #[V 0 0 E0, .int .i64 7]) (by simp [results, Tryz.results141, go_sem, q0, q1, q2, z0]) rfl ⟨rfl, by go_grown⟩
  | some n =>
    rw [o] at R0
    have nb := bd n o
    have R : Hid (∀ w, Calls Tryz.prog 163 #[.string s] w fun e w' => e = .returned (.tuple #[NB n, .bool true]) ∧ Below w.heap.size w w') := R0.out
    have F0 : Hid _ := fun w => fitted_of k n 7 w hk' nb
    unfold txV
    simp only
    clear R0 bd o
    cases ok : fitOk k n
    · rw [ok] at F0
      have F : Hid (∀ w, Calls Tryz.prog 130 #[.int .u8 k, NB n, .int .i64 7] w fun e w' => e = .returned (.tuple #[V 0 0 E0, .int .i64 7]) ∧ Below w.heap.size w w') := F0.out
      rw [if_neg (by simp)]
      clear F0 ok
      go_enter Tryz.func141, Tryz.ntmps141
      go_wp2_with (first
        | (go_at_call 133; refine (isInteger_is k _ true hk' (by symm; simp; omega)).mono ?_; rintro e w1 ⟨rfl, rfl⟩)
        | (go_at_call 163; refine (R.out _).mono ?_; rintro e w2 ⟨rfl, hb⟩; obtain ⟨z0, q0, q1, q2, q6, HB⟩ := step_zeroC hb; clear hb)
        | (go_at_call 130; refine (F.out _).mono ?_; rintro e w4 ⟨rfl, hb4⟩; obtain ⟨y0, p0, p1, p2, p6, PB⟩ := boxC z0 q0 q1 q2 q6 HB hb4; clear hb4))
      exact bodyPost_ret (v := .tuple #[V 0 0 E0, .int .i64 7]) (by simp [results, Tryz.results141, go_sem, p0, p1, p2]) rfl ⟨rfl, ((PB.setCell (by simp) _).setCell (by simp) _).setCell (by simp) _⟩
    · rw [ok] at F0
      have F : Hid (∀ w, Calls Tryz.prog 130 #[.int .u8 k, NB n, .int .i64 7] w fun e w' => e = .returned (.tuple #[V k (n % 18446744073709551616) E0, .int .i64 0]) ∧ Below w.heap.size w w') := F0.out
      rw [if_pos rfl]
      clear F0 ok
      generalize n % 18446744073709551616 = b at *
      go_enter Tryz.func141, Tryz.ntmps141
      go_wp2_with (first
        | (go_at_call 133; refine (isInteger_is k _ true hk' (by symm; simp; omega)).mono ?_; rintro e w1 ⟨rfl, rfl⟩)
        | (go_at_call 163; refine (R.out _).mono ?_; rintro e w2 ⟨rfl, hb⟩; obtain ⟨z0, q0, q1, q2, q6, HB⟩ := step_zeroC hb; clear hb)
        | (go_at_call 130; refine (F.out _).mono ?_; rintro e w4 ⟨rfl, hb4⟩; obtain ⟨y0, p0, p1, p2, p6, PB⟩ := boxC z0 q0 q1 q2 q6 HB hb4; clear hb4))
      exact bodyPost_ret (v := .tuple #[V k b E0, .int .i64 0]) (by simp [results, Tryz.results141, go_sem, p0, p1, p2]) rfl ⟨rfl, ((PB.setCell (by simp) _).setCell (by simp) _).setCell (by simp) _⟩
end Go.Proofs.YtpaibmganlaaeaaGreatDoor
namespace Go.Proofs.YtpaibmganlaaeaaGreatDoor
set_option linter.unusedVariables false
open Go.RowKit
set_option maxHeartbeats 1000000 in
theorem SignedR_is (k : Int) (w : World) (p : Bool) (hk : 0 ≤ k ∧ k < 256) (h : p = decide (2 ≤ k ∧ k ≤ 5)) : Calls Tryz.prog 17 #[.int .u8 k] w fun e w' => e = .returned (.bool p) ∧ w' = w := by
  subst h
  rcases kinds k hk with rfl | rfl | rfl | rfl | rfl | rfl | rfl | rfl | rfl | rfl | rfl | rfl | rfl | rfl | rfl | rfl | rfl | rfl | rfl | rfl | hk2
  all_goals
    go_enter Tryz.func17, Tryz.ntmps17
    go_wp2
    go_ret
    exact ⟨ret_bool (by first | rfl | (symm; simp; omega) | (rw [Bool.eq_iff_iff]; simp; omega)), rfl⟩
set_option maxHeartbeats 1000000 in
theorem UnsignedR_is (k : Int) (w : World) (p : Bool) (hk : 0 ≤ k ∧ k < 256) (h : p = decide (6 ≤ k ∧ k ≤ 9)) : Calls Tryz.prog 79 #[.int .u8 k] w fun e w' => e = .returned (.bool p) ∧ w' = w := by
  subst h
  rcases kinds k hk with rfl | rfl | rfl | rfl | rfl | rfl | rfl | rfl | rfl | rfl | rfl | rfl | rfl | rfl | rfl | rfl | rfl | rfl | rfl | rfl | hk2
  all_goals
    go_enter Tryz.func79, Tryz.ntmps79
    go_wp2
    go_ret
    exact ⟨ret_bool (by first | rfl | (symm; simp; omega) | (rw [Bool.eq_iff_iff]; simp; omega)), rfl⟩
set_option maxHeartbeats 1000000 in
theorem RowR_is (k : Int) (w : World) (p : Bool) (hk : 0 ≤ k ∧ k < 256) (h : p = decide (10 ≤ k ∧ k ≤ 13)) : Calls Tryz.prog 77 #[.int .u8 k] w fun e w' => e = .returned (.bool p) ∧ w' = w := by
  subst h
  rcases kinds k hk with rfl | rfl | rfl | rfl | rfl | rfl | rfl | rfl | rfl | rfl | rfl | rfl | rfl | rfl | rfl | rfl | rfl | rfl | rfl | rfl | hk2
  all_goals
    go_enter Tryz.func77, Tryz.ntmps77
    go_wp2
    go_ret
    exact ⟨ret_bool (by first | rfl | (symm; simp; omega) | (rw [Bool.eq_iff_iff]; simp; omega)), rfl⟩
set_option maxHeartbeats 1000000 in
theorem TimeR_is (k : Int) (w : World) (p : Bool) (hk : 0 ≤ k ∧ k < 256) (h : p = decide (14 ≤ k ∧ k ≤ 17)) : Calls Tryz.prog 78 #[.int .u8 k] w fun e w' => e = .returned (.bool p) ∧ w' = w := by
  subst h
  rcases kinds k hk with rfl | rfl | rfl | rfl | rfl | rfl | rfl | rfl | rfl | rfl | rfl | rfl | rfl | rfl | rfl | rfl | rfl | rfl | rfl | rfl | hk2
  all_goals
    go_enter Tryz.func78, Tryz.ntmps78
    go_wp2
    go_ret
    exact ⟨ret_bool (by first | rfl | (symm; simp; omega) | (rw [Bool.eq_iff_iff]; simp; omega)), rfl⟩
set_option maxHeartbeats 1000000 in
theorem elemR_is (k : Int) (w : World) (p : Bool) (hk : 0 ≤ k ∧ k < 256) (h : p = decide (1 ≤ k ∧ k ≤ 19)) : Calls Tryz.prog 76 #[.int .u8 k] w fun e w' => e = .returned (.bool p) ∧ w' = w := by
  subst h
  rcases kinds k hk with rfl | rfl | rfl | rfl | rfl | rfl | rfl | rfl | rfl | rfl | rfl | rfl | rfl | rfl | rfl | rfl | rfl | rfl | rfl | rfl | hk2
  all_goals
    go_enter Tryz.func76, Tryz.ntmps76
    go_wp2
    go_ret
    exact ⟨ret_bool (by first | rfl | (symm; simp; omega) | (rw [Bool.eq_iff_iff]; simp; omega)), rfl⟩
set_option maxHeartbeats 1000000 in
theorem IntegerR_is (k : Int) (w : World) (p : Bool) (hk : 0 ≤ k ∧ k < 256) (h : p = decide (2 ≤ k ∧ k ≤ 9)) : Calls Tryz.prog 32 #[.int .u8 k] w fun e w' => e = .returned (.bool p) ∧ w' = w := by
  subst h
  rcases kinds k hk with rfl | rfl | rfl | rfl | rfl | rfl | rfl | rfl | rfl | rfl | rfl | rfl | rfl | rfl | rfl | rfl | rfl | rfl | rfl | rfl | hk2
  all_goals
    go_enter Tryz.func32, Tryz.ntmps32
    go_wp2
    go_ret
    exact ⟨ret_bool (by first | rfl | (symm; simp; omega) | (rw [Bool.eq_iff_iff]; simp; omega)), rfl⟩
def widN (k : Int) : Int := if k = 2 ∨ k = 6 ∨ k = 10 then 8 else if k = 3 ∨ k = 7 ∨ k = 11 then 16 else if k = 4 ∨ k = 8 ∨ k = 12 then 32 else if k = 5 ∨ k = 9 ∨ k = 13 then 64 else 0
set_option maxHeartbeats 1000000 in
theorem WidthR_is (k : Int) (w : World) (hk : 0 ≤ k ∧ k < 256) : Calls Tryz.prog 16 #[.int .u8 k] w fun e w' => e = .returned (.int .i64 (widN k)) ∧ w' = w := by
  rcases kinds k hk with rfl | rfl | rfl | rfl | rfl | rfl | rfl | rfl | rfl | rfl | rfl | rfl | rfl | rfl | rfl | rfl | rfl | rfl | rfl | rfl | hk2
  all_goals
    go_enter Tryz.func16, Tryz.ntmps16
    go_wp2
    go_ret
    exact ⟨ret_int (by first | rfl | (unfold widN; rw [if_neg (by omega), if_neg (by omega), if_neg (by omega), if_neg (by omega)])), rfl⟩
theorem LrealQ_s (n : Nat) (w : World) : Calls Tryz.prog 175 #[.float .f64 n] w fun e w' => e = .returned (V 18 (lrealB n) E0) ∧ Below w.heap.size w w' := by
  have hx := call_bits
  cases h : fnan n
  · have g : (FloatKind.f64.format.order n n != some .eq) = false := by rw [order_self_ne, h]
    rw [lrealB_f h]
    clear h
    go_enter Tryz.func175, Tryz.ntmps175
    go_wp2
    exact bodyPost_ret (v := V 18 n E0) (by simp [results, Tryz.results175, go_sem]) rfl ⟨rfl, (Below.refl _ _).alloc (Nat.le_refl _) _⟩
  · have g : (FloatKind.f64.format.order n n != some .eq) = true := by rw [order_self_ne, h]
    rw [lrealB_t h]
    clear h
    go_enter Tryz.func175, Tryz.ntmps175
    go_wp2
    exact bodyPost_ret (v := V 18 9221120237041090561 E0) (by simp [results, Tryz.results175, go_sem]) rfl ⟨rfl, (Below.refl _ _).alloc (Nat.le_refl _) _⟩
set_option maxHeartbeats 400000 in
theorem BoolR_of (p : Bool) (w : World) : Calls Tryz.prog 170 #[.bool p] w fun e w' => e = .returned (V 1 (tb p) E0) ∧ Below w.heap.size w w' := by
  cases p
  · go_enter Tryz.func170, Tryz.ntmps170
    go_wp2
    exact bodyPost_ret (v := V 1 0 E0) (by simp [results, Tryz.results170, go_sem]) rfl ⟨rfl, (Below.refl _ _).alloc (Nat.le_refl _) _⟩
  · go_enter Tryz.func170, Tryz.ntmps170
    go_wp2
    exact bodyPost_ret (v := V 1 1 E0) (by simp [results, Tryz.results170, go_sem]) rfl ⟨rfl, (Below.refl _ _).alloc (Nat.le_refl _) _⟩
end Go.Proofs.YtpaibmganlaaeaaGreatDoor
namespace Go.Proofs.YtpaibmganlaaeaaGreatDoor
set_option linter.unusedVariables false
open Go.RowKit
def RcOk (l N : Int) (e : Ending) : Prop := ∃ k' b' s' g, e = .returned (.tuple #[V k' b' s', .int .i64 g]) ∧ (2 ≤ l ∧ l ≤ 9 → g = 0 → fitOk l N = true)
theorem fitS (l N : Int) (hl : 2 ≤ l ∧ l ≤ 9) (a : 2 ≤ l ∧ l ≤ 5 → -9223372036854775808 ≤ N ∧ N < 9223372036854775808) (u : 6 ≤ l → 0 ≤ N ∧ N < 18446744073709551616) (m : mayW l (N % 18446744073709551616) = true) : fitOk l N = true := by
  have e : num l (N % 18446744073709551616) = N := by
    by_cases h : 2 ≤ l ∧ l ≤ 5
    · have := a h
      unfold num
      rw [if_pos (Or.inl h)]
      unfold wrap64
      omega
    · rw [num_u (by omega)]
      have := u (by omega)
      omega
  unfold fitOk
  rw [e]
  simp [may3, m]
  omega
section
variable (l kv b : Int) (w : World)
theorem rc_none (l N f : Int) (h : f ≠ 0) : RcOk l N (.returned (.tuple #[V 0 0 E0, .int .i64 f])) := ⟨0, 0, E0, f, rfl, fun _ e => absurd e h⟩
theorem boxD {w w4 : World} {u : TypeId} {o : Obj} (hb : Below ((w.alloc (.cells #[.int .u8 0, .int .u64 0, .string ⟨#[]⟩] u)).alloc o).heap.size ((w.alloc (.cells #[.int .u8 0, .int .u64 0, .string ⟨#[]⟩] u)).alloc o) w4) :
    w.heap.size < w4.heap.size ∧ w4.cell? ⟨w.heap.size, 0, none⟩ = some (.int .u8 0) ∧ w4.cell? ⟨w.heap.size, 1, none⟩ = some (.int .u64 0) ∧ w4.cell? ⟨w.heap.size, 2, none⟩ = some (.string ⟨#[]⟩) ∧ (∀ o, w4.frozen? ⟨w.heap.size, o, none⟩ = false) ∧ Below w.heap.size w w4 := by
  have hs := hb.size
  simp only [World.size_alloc] at hs
  refine ⟨by omega, ?_, ?_, ?_, ?_, (((Below.refl _ _).alloc (Nat.le_refl _) _).alloc (by simp) _).trans (hb.mono (by simp; omega))⟩
  · rw [hb.cell (p := ⟨w.heap.size, 0, none⟩) (by simp; omega)]; simp
  · rw [hb.cell (p := ⟨w.heap.size, 1, none⟩) (by simp; omega)]; simp
  · rw [hb.cell (p := ⟨w.heap.size, 2, none⟩) (by simp; omega)]; simp
  · intro o
    rw [hb.frozen (p := ⟨w.heap.size, o, none⟩) (by simp; omega)]; simp
theorem rc_made (l N B : Int) (k' b' : Int) (s' : ByteArray) (g : Int) (h : 2 ≤ l ∧ l ≤ 9 → g = 0 → fitOk l N = true) : RcOk l N (.returned (.tuple #[V k' b' s', .int .i64 g])) := ⟨k', b', s', g, rfl, h⟩
theorem rv_form (q : Bool) (l B : Int) : ∃ k' b' g, RV q l B 7 = .tuple #[V k' b' E0, .int .i64 g] ∧ (g = 0 → q = true) := by
  cases q
  · exact ⟨0, 0, 7, rfl, fun h => absurd h (by omega)⟩
  · exact ⟨l, B, 0, rfl, fun _ => rfl⟩
set_option maxRecDepth 100000 in
set_option maxHeartbeats 2000000 in
theorem sized_neg (N z B : Int) (hl : 2 ≤ l ∧ l ≤ 13) (z0 : 0 < z) (z1 : z ≤ 9223372036854775808) (eb : IntKind.u64.wrap (-z) = B) (B0 : 0 ≤ B) (B1 : B < 18446744073709551616) (FS : Hid (2 ≤ l ∧ l ≤ 5 → mayW l B = true → fitOk l N = true)) :
    Calls Tryz.prog 172 #[.int .u8 l, .int .u64 z, .bool true] w fun e w' => RcOk l N e ∧ Below w.heap.size w w' := by
  have hk : 0 ≤ l ∧ l < 256 := by omega
  by_cases sg : l ≤ 5
  · obtain ⟨k', b', g, eq, hg⟩ := rv_form (mayW l B) l B
    have MD : Hid (∀ w, Calls Tryz.prog 174 #[.int .u8 l, .int .u64 B, .int .i64 7] w fun e w' => e = .returned (.tuple #[V k' b' E0, .int .i64 g]) ∧ Below w.heap.size w w') := fun w => by
      have := made_of l B 7 w B0 B1 hk
      rwa [eq] at this
    have OK : Hid (RcOk l N (.returned (.tuple #[V k' b' E0, .int .i64 g]))) := rc_made l N B k' b' E0 g fun h e => FS.out ⟨h.1, sg⟩ (hg e)
    clear eq hg FS
    go_enter Tryz.func172, Tryz.ntmps172
    go_wp2_with (first
      | (go_at_call 17; refine (SignedR_is l _ true hk (by symm; simp; omega)).mono ?_; rintro e w2 ⟨rfl, rfl⟩)
      | (go_at_call 174; refine (MD.out _).mono ?_; rintro e w4 ⟨rfl, hb4⟩; obtain ⟨y0, p0, p1, p2, p6, PB⟩ := boxD hb4; clear hb4))
    exact bodyPost_ret (v := .tuple #[V k' b' E0, .int .i64 g]) (by simp [results, Tryz.results172, go_sem, p0, p1, p2]) rfl ⟨OK.out, ((PB.setCell (by simp) _).setCell (by simp) _).setCell (by simp) _⟩
  · go_enter Tryz.func172, Tryz.ntmps172
    go_wp2_with (first
      | (go_at_call 17; refine (SignedR_is l _ false hk (by symm; simp; omega)).mono ?_; rintro e w2 ⟨rfl, rfl⟩))
    exact bodyPost_ret (v := .tuple #[V 0 0 E0, .int .i64 7]) (by simp [results, Tryz.results172, go_sem]) rfl ⟨rc_none l N 7 (by omega), by go_grown⟩
set_option maxRecDepth 100000 in
set_option maxHeartbeats 2000000 in
theorem sized_pos (N : Int) (hl : 2 ≤ l ∧ l ≤ 13) (N0 : 0 ≤ N) (N1 : N < 18446744073709551616) :
    Calls Tryz.prog 172 #[.int .u8 l, .int .u64 N, .bool false] w fun e w' => RcOk l N e ∧ Below w.heap.size w w' := by
  have hk : 0 ≤ l ∧ l < 256 := by omega
  obtain ⟨k', b', g, eq, hg⟩ := rv_form (mayW l N) l N
  have MD : Hid (∀ w, Calls Tryz.prog 174 #[.int .u8 l, .int .u64 N, .int .i64 7] w fun e w' => e = .returned (.tuple #[V k' b' E0, .int .i64 g]) ∧ Below w.heap.size w w') := fun w => by
    have := made_of l N 7 w N0 N1 hk
    rwa [eq] at this
  have eN : N % 18446744073709551616 = N := by omega
  by_cases sg : l ≤ 5
  · by_cases big : 9223372036854775808 ≤ N
    · clear eN
      go_enter Tryz.func172, Tryz.ntmps172
      go_wp2_with (first
        | (go_at_call 17; refine (SignedR_is l _ true hk (by symm; simp; omega)).mono ?_; rintro e w2 ⟨rfl, rfl⟩))
      exact bodyPost_ret (v := .tuple #[V 0 0 E0, .int .i64 7]) (by simp [results, Tryz.results172, go_sem]) rfl ⟨rc_none l N 7 (by omega), by go_grown⟩
    · have OK : Hid (RcOk l N (.returned (.tuple #[V k' b' E0, .int .i64 g]))) := rc_made l N N k' b' E0 g fun h e => fitS l N h (fun _ => by omega) (fun _ => by omega) (by rw [eN]; exact hg e)
      clear eq hg eN
      go_enter Tryz.func172, Tryz.ntmps172
      go_wp2_with (first
        | (go_at_call 17; refine (SignedR_is l _ true hk (by symm; simp; omega)).mono ?_; rintro e w2 ⟨rfl, rfl⟩)
        | (go_at_call 174; refine (MD.out _).mono ?_; rintro e w4 ⟨rfl, hb4⟩; obtain ⟨y0, p0, p1, p2, p6, PB⟩ := boxD hb4; clear hb4))
      exact bodyPost_ret (v := .tuple #[V k' b' E0, .int .i64 g]) (by simp [results, Tryz.results172, go_sem, p0, p1, p2]) rfl ⟨OK.out, ((PB.setCell (by simp) _).setCell (by simp) _).setCell (by simp) _⟩
  · have OK : Hid (RcOk l N (.returned (.tuple #[V k' b' E0, .int .i64 g]))) := rc_made l N N k' b' E0 g fun h e => fitS l N h (fun _ => by omega) (fun _ => by omega) (by rw [eN]; exact hg e)
    clear eq hg eN
    go_enter Tryz.func172, Tryz.ntmps172
    go_wp2_with (first
      | (go_at_call 17; refine (SignedR_is l _ false hk (by symm; simp; omega)).mono ?_; rintro e w2 ⟨rfl, rfl⟩)
      | (go_at_call 174; refine (MD.out _).mono ?_; rintro e w4 ⟨rfl, hb4⟩; obtain ⟨y0, p0, p1, p2, p6, PB⟩ := boxD hb4; clear hb4))
    exact bodyPost_ret (v := .tuple #[V k' b' E0, .int .i64 g]) (by simp [results, Tryz.results172, go_sem, p0, p1, p2]) rfl ⟨OK.out, ((PB.setCell (by simp) _).setCell (by simp) _).setCell (by simp) _⟩
end
end Go.Proofs.YtpaibmganlaaeaaGreatDoor
namespace Go.Proofs.YtpaibmganlaaeaaGreatDoor
set_option linter.unusedVariables false
open Go.RowKit
/-- A number fits just if its bits may be, and say it. -/
theorem fit_is (k N : Int) (hk : 2 ≤ k ∧ k ≤ 13) (hn : num k (N % 18446744073709551616) = N) : fitOk k N = mayW k (N % 18446744073709551616) := by
  unfold fitOk
  rw [hn]
  have : may3 k (N % 18446744073709551616) E0 = mayW k (N % 18446744073709551616) := by
    rcases (by omega : k = 2 ∨ k = 3 ∨ k = 4 ∨ k = 5 ∨ k = 6 ∨ k = 7 ∨ k = 8 ∨ k = 9 ∨ k = 10 ∨ k = 11 ∨ k = 12 ∨ k = 13) with rfl | rfl | rfl | rfl | rfl | rfl | rfl | rfl | rfl | rfl | rfl | rfl <;> simp [may3]
  rw [this]
  simp
theorem fit_no (k N : Int) (hn : ¬ num k (N % 18446744073709551616) = N) : fitOk k N = false := by
  unfold fitOk
  rw [decide_eq_false hn, Bool.and_false]
/-- A number as a value of a kind, or the fault. -/
def szV (k N : Int) : Value := if fitOk k N = true then .tuple #[V k (N % 18446744073709551616) E0, .int .i64 0] else .tuple #[V 0 0 E0, .int .i64 7]
theorem szV_no (k N : Int) (h : fitOk k N = false) : szV k N = .tuple #[V 0 0 E0, .int .i64 7] := by unfold szV; rw [h]; rfl
theorem szV_made (k N : Int) (h : fitOk k N = mayW k (N % 18446744073709551616)) : szV k N = RV (mayW k (N % 18446744073709551616)) k (N % 18446744073709551616) 7 := by
  unfold szV
  rw [h]
  cases mayW k (N % 18446744073709551616) <;> rfl
section
variable (k : Int) (w : World)
set_option maxRecDepth 100000 in
set_option maxHeartbeats 2000000 in
theorem sizedR_neg (z : Int) (hl : 2 ≤ k ∧ k ≤ 13) (z0 : 0 < z) (z1 : z < 18446744073709551616) :
    Calls Tryz.prog 172 #[.int .u8 k, .int .u64 z, .bool true] w fun e w' => e = .returned (szV k (-z)) ∧ Below w.heap.size w w' := by
  have hk : 0 ≤ k ∧ k < 256 := by omega
  by_cases sg : k ≤ 5
  · by_cases big : z ≤ 9223372036854775808
    · have hn : num k ((-z) % 18446744073709551616) = -z := by rw [num_s (by omega)]; unfold wrap64; omega
      rw [szV_made k (-z) (fit_is k (-z) hl hn)]
      have eb : IntKind.u64.wrap (-z) = (-z) % 18446744073709551616 := by rw [IntKind.wrap_u64]
      have MD0 : Hid _ := fun w => made_of k ((-z) % 18446744073709551616) 7 w (by omega) (by omega) hk
      obtain ⟨k', b', g, eq, hg⟩ := rv_form (mayW k ((-z) % 18446744073709551616)) k ((-z) % 18446744073709551616)
      rw [eq] at MD0
      rw [eq]
      have MD : Hid (∀ w, Calls Tryz.prog 174 #[.int .u8 k, .int .u64 ((-z) % 18446744073709551616), .int .i64 7] w fun e w' => e = .returned (.tuple #[V k' b' E0, .int .i64 g]) ∧ Below w.heap.size w w') := MD0.out
      clear eq hg MD0 hn
      generalize (-z) % 18446744073709551616 = B at *
      go_enter Tryz.func172, Tryz.ntmps172
      go_wp2_with (first
        | (go_at_call 17; refine (SignedR_is k _ true hk (by symm; simp; omega)).mono ?_; rintro e w2 ⟨rfl, rfl⟩)
        | (go_at_call 174; refine (MD.out _).mono ?_; rintro e w4 ⟨rfl, hb4⟩; obtain ⟨y0, p0, p1, p2, p6, PB⟩ := boxD hb4; clear hb4))
      exact bodyPost_ret (v := .tuple #[V k' b' E0, .int .i64 g]) (by simp [results, Tryz.results172, go_sem, p0, p1, p2]) rfl ⟨rfl, ((PB.setCell (by simp) _).setCell (by simp) _).setCell (by simp) _⟩
    · rw [szV_no k (-z) (fit_no k (-z) (by rw [num_s (by omega)]; unfold wrap64; omega))]
      go_enter Tryz.func172, Tryz.ntmps172
      go_wp2_with (first
        | (go_at_call 17; refine (SignedR_is k _ true hk (by symm; simp; omega)).mono ?_; rintro e w2 ⟨rfl, rfl⟩))
      exact bodyPost_ret (v := .tuple #[V 0 0 E0, .int .i64 7]) (by simp [results, Tryz.results172, go_sem]) rfl ⟨rfl, by go_grown⟩
  · rw [szV_no k (-z) (fit_no k (-z) (by rw [num_u (by omega)]; omega))]
    go_enter Tryz.func172, Tryz.ntmps172
    go_wp2_with (first
      | (go_at_call 17; refine (SignedR_is k _ false hk (by symm; simp; omega)).mono ?_; rintro e w2 ⟨rfl, rfl⟩))
    exact bodyPost_ret (v := .tuple #[V 0 0 E0, .int .i64 7]) (by simp [results, Tryz.results172, go_sem]) rfl ⟨rfl, by go_grown⟩
set_option maxRecDepth 100000 in
set_option maxHeartbeats 2000000 in
theorem sizedR_pos (N : Int) (hl : 2 ≤ k ∧ k ≤ 13) (N0 : 0 ≤ N) (N1 : N < 18446744073709551616) :
    Calls Tryz.prog 172 #[.int .u8 k, .int .u64 N, .bool false] w fun e w' => e = .returned (szV k N) ∧ Below w.heap.size w w' := by
  have hk : 0 ≤ k ∧ k < 256 := by omega
  have eN : N % 18446744073709551616 = N := by omega
  have MD0 : Hid _ := fun w => made_of k N 7 w N0 N1 hk
  obtain ⟨k', b', g, eq, hg⟩ := rv_form (mayW k N) k N
  rw [eq] at MD0
  have MD : Hid (∀ w, Calls Tryz.prog 174 #[.int .u8 k, .int .u64 N, .int .i64 7] w fun e w' => e = .returned (.tuple #[V k' b' E0, .int .i64 g]) ∧ Below w.heap.size w w') := MD0.out
  clear MD0 hg
  by_cases sg : k ≤ 5
  · by_cases big : 9223372036854775808 ≤ N
    · rw [szV_no k N (fit_no k N (by rw [eN, num_s (by omega)]; unfold wrap64; omega))]
      clear eN eq
      go_enter Tryz.func172, Tryz.ntmps172
      go_wp2_with (first
        | (go_at_call 17; refine (SignedR_is k _ true hk (by symm; simp; omega)).mono ?_; rintro e w2 ⟨rfl, rfl⟩))
      exact bodyPost_ret (v := .tuple #[V 0 0 E0, .int .i64 7]) (by simp [results, Tryz.results172, go_sem]) rfl ⟨rfl, by go_grown⟩
    · rw [szV_made k N (fit_is k N hl (by rw [eN, num_s (by omega)]; unfold wrap64; omega)), eN, eq]
      clear eN eq
      go_enter Tryz.func172, Tryz.ntmps172
      go_wp2_with (first
        | (go_at_call 17; refine (SignedR_is k _ true hk (by symm; simp; omega)).mono ?_; rintro e w2 ⟨rfl, rfl⟩)
        | (go_at_call 174; refine (MD.out _).mono ?_; rintro e w4 ⟨rfl, hb4⟩; obtain ⟨y0, p0, p1, p2, p6, PB⟩ := boxD hb4; clear hb4))
      exact bodyPost_ret (v := .tuple #[V k' b' E0, .int .i64 g]) (by simp [results, Tryz.results172, go_sem, p0, p1, p2]) rfl ⟨rfl, ((PB.setCell (by simp) _).setCell (by simp) _).setCell (by simp) _⟩
  · rw [szV_made k N (fit_is k N hl (by rw [eN, num_u (by omega)])), eN, eq]
    clear eN eq
    go_enter Tryz.func172, Tryz.ntmps172
    go_wp2_with (first
      | (go_at_call 17; refine (SignedR_is k _ false hk (by symm; simp; omega)).mono ?_; rintro e w2 ⟨rfl, rfl⟩)
      | (go_at_call 174; refine (MD.out _).mono ?_; rintro e w4 ⟨rfl, hb4⟩; obtain ⟨y0, p0, p1, p2, p6, PB⟩ := boxD hb4; clear hb4))
    exact bodyPost_ret (v := .tuple #[V k' b' E0, .int .i64 g]) (by simp [results, Tryz.results172, go_sem, p0, p1, p2]) rfl ⟨rfl, ((PB.setCell (by simp) _).setCell (by simp) _).setCell (by simp) _⟩
end
end Go.Proofs.YtpaibmganlaaeaaGreatDoor
namespace Go.Proofs.YtpaibmganlaaeaaGreatDoor
set_option linter.unusedVariables false
open Go.RowKit
theorem abs_is (n : Nat) (h : n < 18446744073709551616) : (bits BinOp.andNot IntKind.u64 (n : Int) 9223372036854775808).toNat = n % 9223372036854775808 := by
  have e := u64_andNot_nat n 9223372036854775808 h (by omega)
  have : n &&& (18446744073709551615 - 9223372036854775808) = n % 9223372036854775808 := Nat.and_two_pow_sub_one_eq_mod n 63
  rw [this] at e
  have : ((9223372036854775808 : Nat) : Int) = 9223372036854775808 := rfl
  rw [this] at e
  rw [e]
  exact Int.toNat_natCast _
theorem rte_fin (x : Nat) (h : finB x = true) : rte x = (if (x / 9223372036854775808 % 2 == 1) = true then 9223372036854775808 + rg (whN x) else rg (whN x)) := by
  have e := enc_wh x ((fin_iff x).1 h)
  obtain ⟨m, p, r, _, _⟩ := read_fin x h
  have r' : FloatKind.f64.decode x = .number (x / 9223372036854775808 % 2 == 1) m p := r
  unfold rte
  rw [r'] at e ⊢
  exact e
theorem rte_inf (x : Nat) (h : finB x = false) (n : fnan x = false) : rte x = (if (x / 9223372036854775808 % 2 == 1) = true then 9223372036854775808 + 9218868437227405312 else 9218868437227405312) := by
  have e := int_inf x h n
  have d : FloatKind.f64.decode x = .infinity (x / 9223372036854775808 % 2 == 1) := by
    cases q : FloatKind.f64.decode x with
    | number s m p => rw [q] at e; cases e
    | infinity s => rw [q] at e; exact e
    | nan s t => rw [q] at e; cases e
  unfold rte
  rw [d]
  show Ieee.double.word _ Ieee.double.infRung = _
  have e4 : Ieee.double.infRung = 9218868437227405312 := by decide
  have e1 : Ieee.double.signWeight = 9223372036854775808 := by decide
  unfold Ieee.Format.word
  rw [e4, e1]
theorem absr_fin (x : Nat) (h : finB x = true) : (bits BinOp.andNot IntKind.u64 (rte x : Int) 9223372036854775808).toNat = rg (whN x) := by
  have b := rg_bd (rep_wh x ((fin_iff x).1 h))
  have e := rte_fin x h
  rw [abs_is _ (by rw [e]; split <;> omega), e]
  split <;> omega
theorem absr_inf (x : Nat) (h : finB x = false) (n : fnan x = false) : (bits BinOp.andNot IntKind.u64 (rte x : Int) 9223372036854775808).toNat = 9218868437227405312 := by
  have e := rte_inf x h n
  rw [abs_is _ (by rw [e]; split <;> omega), e]
  split <;> omega
theorem ord_top : FloatKind.f64.format.order 9218868437227405312 4895412794951729152 = some .gt := by decide
theorem sgn_fl (x : Nat) (h : finB x = true) : sgn (FloatKind.f64.format.order x 0 == some Ordering.lt) (whN x : Int) = flN x := by
  rw [ord_lt x h]
  unfold sgn flN
  by_cases z : x % 9223372036854775808 = 0
  · have w0 : whN x = 0 := by unfold whN; rw [if_pos (by omega)]
    rw [w0]
    simp
  · have e : (x % 9223372036854775808 == 0) = false := by simpa using z
    rw [e]
    simp
/-- What a float rounds to, if there is room. -/
def rnF (x : Nat) : Value := if finB x = true ∧ whN x < 18446744073709551616 then .tuple #[NB (flN x), .bool true] else .tuple #[NB 0, .bool false]
set_option maxRecDepth 100000 in
set_option maxHeartbeats 1000000 in
theorem rounded_yes (x : Nat) (h : finB x = true) (g : whN x < 18446744073709551616) (cm : calm x) (w : World) : Calls Tryz.prog 162 #[.float .f64 x] w fun e w' => e = .returned (.tuple #[NB (flN x), .bool true]) ∧ Below w.heap.size w w' := by
  have hr := call_round x cm
  have R := rep_wh x ((fin_iff x).1 h)
  have ab := absr_fin x h
  have c1 := nan_fin x h
  have o := (order_rg R).1 g
  have hcv : ∀ w, (convert 71 25 (.float .f64 (rg (whN x)))).run Tryz.prog w = .ok (.int .u64 (whN x : Int)) w := fun w => run_convert_float_int w 71 25 .f64 .u64 (rg (whN x)) (whN x : Int) (by rw [Tryz.underlying71]; rfl) Tryz.underlying25 (val_rg R g)
  have c2 : (FloatKind.f64.format.order (rg (whN x)) 4895412794951729152 == some Ordering.gt) = false := by rw [o]; rfl
  have c3 : (FloatKind.f64.format.order (rg (whN x)) 4895412794951729152 == some Ordering.eq) = false := by rw [o]; rfl
  have SG : Hid _ := sgn_fl x h
  have AB : Hid ((bits BinOp.andNot IntKind.u64 (rte x : Int) 9223372036854775808).toNat = rg (whN x)) := ab
  have m0 : (0 : Int) ≤ (whN x : Int) := by omega
  clear R h g cm ab o
  generalize rg (whN x) = r at *
  generalize whN x = m at *
  go_enter Tryz.func162, Tryz.ntmps162
  go_wp2_with (first
    | (go_at_call 96; refine (Abs_of _ _).mono ?_; rw [AB.out]; rintro e w' ⟨rfl, rfl⟩)
    | (go_at_call 82; refine (IsNaN_of _ _).mono ?_; rintro e w' ⟨rfl, rfl⟩)
    | (go_at_call 160; refine (signed_of _ _ _ m0).mono ?_; rw [SG.out]; rintro e w' ⟨rfl, hb⟩; obtain ⟨B, l, q0, q1, f0, f1⟩ := box2 (Or.inl rfl) hb))
  exact bodyPost_ret (v := .tuple #[NB (flN x), .bool true]) (by simp [results, Tryz.results162, go_sem, q0, q1, NB]) rfl ⟨rfl, (B.setCell (by simp) _).setCell (by simp) _⟩
set_option maxRecDepth 100000 in
set_option maxHeartbeats 1000000 in
theorem rounded_no (x : Nat) (cm : calm x) (d : fnan x = true ∨ (FloatKind.f64.format.order (bits BinOp.andNot IntKind.u64 (rte x : Int) 9223372036854775808).toNat 4895412794951729152 == some Ordering.gt || FloatKind.f64.format.order (bits BinOp.andNot IntKind.u64 (rte x : Int) 9223372036854775808).toNat 4895412794951729152 == some Ordering.eq) = true) (w : World) : Calls Tryz.prog 162 #[.float .f64 x] w fun e w' => e = .returned (.tuple #[NB 0, .bool false]) ∧ Below w.heap.size w w' := by
  have hr := call_round x cm
  clear cm
  cases c1 : fnan x
  · rw [c1] at d
    rcases d with d | c2
    · cases d
    · rw [Bool.or_eq_true_iff] at c2
      rcases c2 with c2 | c2
      all_goals
        go_enter Tryz.func162, Tryz.ntmps162
        go_wp2_with (first
          | (go_at_call 96; refine (Abs_of _ _).mono ?_; rintro e w' ⟨rfl, rfl⟩)
          | (go_at_call 82; refine (IsNaN_of _ _).mono ?_; rintro e w' ⟨rfl, rfl⟩))
        exact bodyPost_ret (v := .tuple #[NB 0, .bool false]) (by rw [rd_zero]; simp [results, Tryz.results162, go_sem]) rfl ⟨rfl, (Below.refl _ _).alloc (Nat.le_refl _) _⟩
  · clear d
    go_enter Tryz.func162, Tryz.ntmps162
    go_wp2_with (first
      | (go_at_call 96; refine (Abs_of _ _).mono ?_; rintro e w' ⟨rfl, rfl⟩)
      | (go_at_call 82; refine (IsNaN_of _ _).mono ?_; rintro e w' ⟨rfl, rfl⟩))
    exact bodyPost_ret (v := .tuple #[NB 0, .bool false]) (by rw [rd_zero]; simp [results, Tryz.results162, go_sem]) rfl ⟨rfl, (Below.refl _ _).alloc (Nat.le_refl _) _⟩
theorem rounded_x (x : Nat) (cm : calm x) (w : World) : Calls Tryz.prog 162 #[.float .f64 x] w fun e w' => e = .returned (rnF x) ∧ Below w.heap.size w w' := by
  unfold rnF
  by_cases c : finB x = true ∧ whN x < 18446744073709551616
  · rw [if_pos c]
    exact rounded_yes x c.1 c.2 cm w
  · rw [if_neg c]
    refine rounded_no x cm ?_ w
    by_cases n : fnan x = true
    · exact Or.inl n
    · right
      have n' : fnan x = false := by simpa using n
      by_cases f : finB x = true
      · rw [absr_fin x f]
        have R := rep_wh x ((fin_iff x).1 f)
        rcases (order_rg R).2 (by have : ¬ whN x < 18446744073709551616 := fun q => c ⟨f, q⟩; omega) with o | o <;> rw [o] <;> rfl
      · rw [absr_inf x (by simpa using f) n', ord_top]
        rfl
end Go.Proofs.YtpaibmganlaaeaaGreatDoor
namespace Go.Proofs.YtpaibmganlaaeaaGreatDoor
set_option linter.unusedVariables false
open Go.RowKit
/-- A float as a value of a kind. -/
def frX (k : Int) (x : Nat) : Value :=
  if k = 1 then (if fnan x = true then .tuple #[V 0 0 E0, .int .i64 7] else .tuple #[V 1 (tb (!(x % 9223372036854775808 == 0))) E0, .int .i64 0])
  else if 2 ≤ k ∧ k ≤ 13 then (if finB x = true ∧ whN x < 18446744073709551616 then szV k (flN x) else .tuple #[V 0 0 E0, .int .i64 7])
  else .tuple #[V 0 0 E0, .int .i64 8]
theorem ord_ne (x : Nat) (n : fnan x = false) : (FloatKind.f64.format.order x 0 != some Ordering.eq) = !(x % 9223372036854775808 == 0) := by
  by_cases f : finB x = true
  · rw [bne, ord_eq x f]
  · obtain ⟨o, e⟩ := ord_inf x (by simpa using f) n
    rw [o, e]
    generalize (x / 9223372036854775808 % 2 == 1) = s
    cases s <;> rfl
theorem flN_bd (x : Nat) (h : whN x < 18446744073709551616) : -18446744073709551616 < flN x ∧ flN x < 18446744073709551616 := by
  unfold flN
  split <;> omega
section
variable (k kv b : Int) (s : ByteArray) (x : Nat) (w : World)
set_option maxRecDepth 100000 in
set_option maxHeartbeats 1000000 in
theorem fromFloat_1x : Calls Tryz.prog 140 #[.int .u8 1, .float .f64 x] w fun e w' => e = .returned (frX 1 x) ∧ Below w.heap.size w w' := by
  unfold frX
  rw [if_pos rfl]
  cases c : fnan x
  · have C : Hid (fnan x = false) := c
    have e0 := ord_ne x c
    rw [if_neg (by decide)]
    clear c
    go_enter Tryz.func140, Tryz.ntmps140
    go_wp2_with (first
      | (go_at_call 82; refine (IsNaN_of _ _).mono ?_; rintro e w' ⟨rfl, rfl⟩; rw [C.out])
      | (go_at_call 92; refine (Bool_of _ _).mono ?_; rintro e w1 ⟨rfl, hb⟩; obtain ⟨z0, q0, q1, q2, q6, HB⟩ := step_zeroC hb; clear hb))
    exact bodyPost_ret (v := .tuple #[V 1 (tb (!(x % 9223372036854775808 == 0))) E0, .int .i64 0]) (by rw [← e0]; simp [results, Tryz.results140, go_sem, q0, q1, q2]) rfl ⟨rfl, ((HB.setCell (by simp) _).setCell (by simp) _).setCell (by simp) _⟩
  · have C : Hid (fnan x = true) := c
    rw [if_pos rfl]
    clear c
    go_enter Tryz.func140, Tryz.ntmps140
    go_wp2_with (go_at_call 82; refine (IsNaN_of _ _).mono ?_; rintro e w' ⟨rfl, rfl⟩; rw [C.out])
    exact bodyPost_ret (v := .tuple #[V 0 0 E0, .int .i64 7]) (by simp [results, Tryz.results140, go_sem]) rfl ⟨rfl, (Below.refl _ _).alloc (Nat.le_refl _) _⟩
set_option maxRecDepth 100000 in
set_option maxHeartbeats 1000000 in
theorem fromFloat_8x (hk : 0 ≤ k ∧ k < 256) (d : 14 ≤ k) : Calls Tryz.prog 140 #[.int .u8 k, .float .f64 x] w fun e w' => e = .returned (.tuple #[V 0 0 E0, .int .i64 8]) ∧ Below w.heap.size w w' := by
  have k1 : (k == 1) = false := by simp; omega
  go_enter Tryz.func140, Tryz.ntmps140
  go_wp2_with (first
      | (go_at_call 133; refine (isInteger_is k _ false hk (by symm; simp; omega)).mono ?_; rintro e w1 ⟨rfl, rfl⟩)
      | (go_at_call 157; refine (isRow_is k _ false hk (by symm; simp; omega)).mono ?_; rintro e w1 ⟨rfl, rfl⟩))
  exact bodyPost_ret (v := .tuple #[V 0 0 E0, .int .i64 8]) (by simp [results, Tryz.results140, go_sem]) rfl ⟨rfl, (Below.refl _ _).alloc (Nat.le_refl _) _⟩
/-- An answer of a number that fits or not. -/
theorem sz_form (k N : Int) : ∃ k' b' f, szV k N = .tuple #[V k' b' E0, .int .i64 f] := by
  unfold szV
  split
  · exact ⟨_, _, _, rfl⟩
  · exact ⟨_, _, _, rfl⟩
theorem fitted_sz (k n : Int) (w : World) (hk : 0 ≤ k ∧ k < 256) (g : -18446744073709551616 < n ∧ n < 18446744073709551616) :
    Calls Tryz.prog 130 #[.int .u8 k, NB n, .int .i64 7] w fun e w' => e = .returned (szV k n) ∧ Below w.heap.size w w' := by
  refine (fitted_of k n 7 w hk g).mono ?_
  rintro e w' ⟨rfl, hb⟩
  refine ⟨?_, hb⟩
  unfold szV RV
  cases fitOk k n <;> rfl
set_option maxRecDepth 100000 in
set_option maxHeartbeats 1000000 in
theorem fromFloat_nx (hk : 0 ≤ k ∧ k < 256) (d : 2 ≤ k ∧ k ≤ 13) (h : calm x) : Calls Tryz.prog 140 #[.int .u8 k, .float .f64 x] w fun e w' => e = .returned (if finB x = true ∧ whN x < 18446744073709551616 then szV k (flN x) else .tuple #[V 0 0 E0, .int .i64 7]) ∧ Below w.heap.size w w' := by
  have k1 : (k == 1) = false := by simp; omega
  have R0 : Hid _ := rounded_x x h
  unfold rnF at R0
  clear h
  by_cases c : finB x = true ∧ whN x < 18446744073709551616
  · rw [if_pos c] at R0 ⊢
    have R : Hid (∀ w, Calls Tryz.prog 162 #[.float .f64 x] w fun e w' => e = .returned (.tuple #[NB (flN x), .bool true]) ∧ Below w.heap.size w w') := R0.out
    have F0 : Hid _ := fun w => fitted_sz k (flN x) w hk (flN_bd x c.2)
    obtain ⟨k', b', f, ef⟩ := sz_form k (flN x)
    rw [ef] at F0 ⊢
    have F : Hid (∀ w, Calls Tryz.prog 130 #[.int .u8 k, NB (flN x), .int .i64 7] w fun e w' => e = .returned (.tuple #[V k' b' E0, .int .i64 f]) ∧ Below w.heap.size w w') := F0.out
    clear R0 F0 ef c
    generalize flN x = n at *
    by_cases d9 : k ≤ 9
    · go_enter Tryz.func140, Tryz.ntmps140
      go_wp2_with (first
        | (go_at_call 133; refine (isInteger_is k _ true hk (by symm; simp; omega)).mono ?_; rintro e w1 ⟨rfl, rfl⟩)
        | (go_at_call 162; refine (R.out _).mono ?_; rintro e w2 ⟨rfl, hb⟩; obtain ⟨z0, q0, q1, q2, q6, HB⟩ := step_zeroC hb; clear hb)
        | (go_at_call 130; refine (F.out _).mono ?_; rintro e w4 ⟨rfl, hb4⟩; obtain ⟨y0, p0, p1, p2, p6, PB⟩ := boxC z0 q0 q1 q2 q6 HB hb4; clear hb4))
      exact bodyPost_ret (v := .tuple #[V k' b' E0, .int .i64 f]) (by simp [results, Tryz.results140, go_sem, p0, p1, p2]) rfl ⟨rfl, ((PB.setCell (by simp) _).setCell (by simp) _).setCell (by simp) _⟩
    · go_enter Tryz.func140, Tryz.ntmps140
      go_wp2_with (first
        | (go_at_call 133; refine (isInteger_is k _ false hk (by symm; simp; omega)).mono ?_; rintro e w1 ⟨rfl, rfl⟩)
        | (go_at_call 157; refine (isRow_is k _ true hk (by symm; simp; omega)).mono ?_; rintro e w1 ⟨rfl, rfl⟩)
        | (go_at_call 162; refine (R.out _).mono ?_; rintro e w2 ⟨rfl, hb⟩; obtain ⟨z0, q0, q1, q2, q6, HB⟩ := step_zeroC hb; clear hb)
        | (go_at_call 130; refine (F.out _).mono ?_; rintro e w4 ⟨rfl, hb4⟩; obtain ⟨y0, p0, p1, p2, p6, PB⟩ := boxC z0 q0 q1 q2 q6 HB hb4; clear hb4))
      exact bodyPost_ret (v := .tuple #[V k' b' E0, .int .i64 f]) (by simp [results, Tryz.results140, go_sem, p0, p1, p2]) rfl ⟨rfl, ((PB.setCell (by simp) _).setCell (by simp) _).setCell (by simp) _⟩
  · rw [if_neg c] at R0 ⊢
    have R : Hid (∀ w, Calls Tryz.prog 162 #[.float .f64 x] w fun e w' => e = .returned (.tuple #[NB 0, .bool false]) ∧ Below w.heap.size w w') := R0.out
    clear R0 c
    by_cases d9 : k ≤ 9
    · go_enter Tryz.func140, Tryz.ntmps140
      go_wp2_with (first
        | (go_at_call 133; refine (isInteger_is k _ true hk (by symm; simp; omega)).mono ?_; rintro e w1 ⟨rfl, rfl⟩)
        | (go_at_call 162; refine (R.out _).mono ?_; rintro e w2 ⟨rfl, hb⟩; obtain ⟨z0, q0, q1, q2, q6, HB⟩ := step_zeroC hb; clear hb))
      exact bodyPost_ret (v := .tuple #[V 0 0 E0, .int .i64 7]) (by simp [results, Tryz.results140, go_sem, q0, q1, q2, z0]) rfl ⟨rfl, by go_grown⟩
    · go_enter Tryz.func140, Tryz.ntmps140
      go_wp2_with (first
        | (go_at_call 133; refine (isInteger_is k _ false hk (by symm; simp; omega)).mono ?_; rintro e w1 ⟨rfl, rfl⟩)
        | (go_at_call 157; refine (isRow_is k _ true hk (by symm; simp; omega)).mono ?_; rintro e w1 ⟨rfl, rfl⟩)
        | (go_at_call 162; refine (R.out _).mono ?_; rintro e w2 ⟨rfl, hb⟩; obtain ⟨z0, q0, q1, q2, q6, HB⟩ := step_zeroC hb; clear hb))
      exact bodyPost_ret (v := .tuple #[V 0 0 E0, .int .i64 7]) (by simp [results, Tryz.results140, go_sem, q0, q1, q2, z0]) rfl ⟨rfl, by go_grown⟩
theorem fromFloat_x (hk : 1 ≤ k ∧ k < 256) (h : calm x) : Calls Tryz.prog 140 #[.int .u8 k, .float .f64 x] w fun e w' => e = .returned (frX k x) ∧ Below w.heap.size w w' := by
  by_cases a : k = 1
  · subst a
    exact fromFloat_1x x w
  · unfold frX
    rw [if_neg a]
    by_cases c : 2 ≤ k ∧ k ≤ 13
    · rw [if_pos c]
      exact fromFloat_nx k x w (by omega) c h
    · rw [if_neg c]
      exact fromFloat_8x k x w (by omega) (by omega)
end
end Go.Proofs.YtpaibmganlaaeaaGreatDoor
