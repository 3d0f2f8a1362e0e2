/- ValueConverts is proved: for every kind and value the statement's function returns true, and its arguments read as they did; the listed tables hold what the programs' texts lay in them (tied). -/
import Derived.Test.YtlaamkfpdompjaaGreatDoorCnW
import Derived.Test.YtlaamkfpdompjaaGreatDoorCnX
import Derived.Test.YtlaamkfpdompjaaGreatDoorBkR
import Derived.Test.YtlaamkfpdompjaaGreatDoorRdV
import Derived.Test.YtlaamkfpdompjaaGreatDoorOpenJ
import Derived.Test.YtlaamkfpdompjaaGreatDoorTie
import Derived.Test.YtlaamkfpdompjaaGreatDoorCards
import Derived.ShutString
import Derived.ChangeOld
import Derived.Below
import Derived.LaidMore
import Derived.LaidSub
import Derived.Lay
import Derived.Lib.LaidTab
import Derived.SevenTiedAt
import Derived.Stop.Joined
namespace Go.Proofs.YtlaamkfpdompjaaGreatDoor
set_option linter.unusedVariables false
open Go.RowKit
abbrev ZR (u : TypeId) : Obj := .cells #[.int .u8 0, .int .u64 0, .string ⟨#[]⟩] u
theorem step_box3R {w w1 : World} {k b : Int} {s : ByteArray} {t u v : TypeId}
    (hb : Below (((w.alloc (.cells #[.int .u8 k, .int .u64 b, .string s] t)).alloc (ZR u)).alloc (ZR v)).heap.size (((w.alloc (.cells #[.int .u8 k, .int .u64 b, .string s] t)).alloc (ZR u)).alloc (ZR v)) w1) :
    w.heap.size < w1.heap.size ∧ w.heap.size + 1 < w1.heap.size ∧ w1.cell? ⟨w.heap.size, 0, none⟩ = some (.int .u8 k) ∧ w1.cell? ⟨w.heap.size, 1, none⟩ = some (.int .u64 b) ∧ w1.cell? ⟨w.heap.size, 2, none⟩ = some (.string s) ∧
    w1.cell? ⟨w.heap.size + 1, 0, none⟩ = some (.int .u8 0) ∧ w1.cell? ⟨w.heap.size + 1, 1, none⟩ = some (.int .u64 0) ∧ w1.cell? ⟨w.heap.size + 1, 2, none⟩ = some (.string ⟨#[]⟩) ∧
    (∀ o, w1.frozen? ⟨w.heap.size + 1, o, none⟩ = false) ∧ Below w.heap.size w w1 ∧ w.heap.size + 1 + 1 < w1.heap.size ∧
    w1.cell? ⟨w.heap.size + 1 + 1, 0, none⟩ = some (.int .u8 0) ∧ w1.cell? ⟨w.heap.size + 1 + 1, 1, none⟩ = some (.int .u64 0) ∧ w1.cell? ⟨w.heap.size + 1 + 1, 2, none⟩ = some (.string ⟨#[]⟩) ∧ (∀ o, w1.frozen? ⟨w.heap.size, o, none⟩ = false) := by
  have hs := hb.size
  simp only [World.size_alloc] at hs
  refine ⟨by omega, by omega, ?_, ?_, ?_, ?_, ?_, ?_, ?_, ((((Below.refl _ _).alloc (Nat.le_refl _) _).alloc (by simp) _).alloc (by simp; omega) _).trans (hb.mono (by simp; omega)), by omega, ?_, ?_, ?_, ?_⟩
  · rw [hb.cell (p := ⟨w.heap.size, 0, none⟩) (by simp; omega)]; simp [ZR, go_sem]
  · rw [hb.cell (p := ⟨w.heap.size, 1, none⟩) (by simp; omega)]; simp [ZR, go_sem]
  · rw [hb.cell (p := ⟨w.heap.size, 2, none⟩) (by simp; omega)]; simp [ZR, go_sem]
  · rw [hb.cell (p := ⟨w.heap.size + 1, 0, none⟩) (by simp)]; simp [ZR, go_sem]
  · rw [hb.cell (p := ⟨w.heap.size + 1, 1, none⟩) (by simp)]; simp [ZR, go_sem]
  · rw [hb.cell (p := ⟨w.heap.size + 1, 2, none⟩) (by simp)]; simp [ZR, go_sem]
  · intro o
    rw [hb.frozen (p := ⟨w.heap.size + 1, o, none⟩) (by simp)]; simp [ZR, go_sem]
  · rw [hb.cell (p := ⟨w.heap.size + 1 + 1, 0, none⟩) (by simp)]; simp [ZR, go_sem]
  · rw [hb.cell (p := ⟨w.heap.size + 1 + 1, 1, none⟩) (by simp)]; simp [ZR, go_sem]
  · rw [hb.cell (p := ⟨w.heap.size + 1 + 1, 2, none⟩) (by simp)]; simp [ZR, go_sem]
  · intro o
    rw [hb.frozen (p := ⟨w.heap.size, o, none⟩) (by simp; omega)]; simp [ZR, go_sem]
set_option maxRecDepth 100000 in
set_option maxHeartbeats 2000000 in
theorem sizedR_0 (k : Int) (w : World) (hl : 2 ≤ k ∧ k ≤ 13) :
    Calls Tryz.prog 39 #[.int .u8 k, .int .u64 0, .bool true] w fun e w' => e = .returned (szV k 0) ∧ Below w.heap.size w w' := by
  have hk : 0 ≤ k ∧ k < 256 := by omega
  have MD0 : Hid _ := fun w => made_of k 0 7 w (by omega) (by omega) hk
  obtain ⟨k', b', g, eq, hg⟩ := rv_form (mayW k 0) k 0
  rw [eq] at MD0
  have MD : Hid (∀ w, Calls Tryz.prog 42 #[.int .u8 k, .int .u64 0, .int .i64 7] w fun e w' => e = .returned (.tuple #[V k' b' E0, .int .i64 g]) ∧ Below w.heap.size w w') := MD0.out
  have e0 : szV k 0 = .tuple #[V k' b' E0, .int .i64 g] := by
    rw [← eq]
    have := szV_made k 0 (fit_is k 0 hl (by by_cases c : 2 ≤ k ∧ k ≤ 5 ∨ k = 14; rw [num_s c]; (unfold wrap64; omega); rw [num_u c]; rfl))
    simpa using this
  rw [e0]
  clear MD0 hg eq e0
  by_cases sg : k ≤ 5
  · go_enter Tryz.func39, Tryz.ntmps39
    go_wp2_with (first
      | (go_at_call 43; refine (SignedR_is k _ true hk (by symm; simp; omega)).mono ?_; rintro e w2 ⟨rfl, rfl⟩)
      | (go_at_call 42; refine (MD.out _).mono ?_; rintro e w4 ⟨rfl, hb4⟩; obtain ⟨y0, p0, p1, p2, p6, PB⟩ := boxD hb4; clear hb4))
    exact bodyPost_ret (v := .tuple #[V k' b' E0, .int .i64 g]) (by simp [results, Tryz.results39, go_sem, p0, p1, p2]) rfl ⟨rfl, ((PB.setCell (by simp) _).setCell (by simp) _).setCell (by simp) _⟩
  · go_enter Tryz.func39, Tryz.ntmps39
    go_wp2_with (first
      | (go_at_call 43; refine (SignedR_is k _ false hk (by symm; simp; omega)).mono ?_; rintro e w2 ⟨rfl, rfl⟩)
      | (go_at_call 42; refine (MD.out _).mono ?_; rintro e w4 ⟨rfl, hb4⟩; obtain ⟨y0, p0, p1, p2, p6, PB⟩ := boxD hb4; clear hb4))
    exact bodyPost_ret (v := .tuple #[V k' b' E0, .int .i64 g]) (by simp [results, Tryz.results39, go_sem, p0, p1, p2]) rfl ⟨rfl, ((PB.setCell (by simp) _).setCell (by simp) _).setCell (by simp) _⟩
theorem sizedR_x (k : Int) (n : Nat) (p : Bool) (d : 2 ≤ k ∧ k ≤ 13) (hn : n < 18446744073709551616) (w : World) :
    Calls Tryz.prog 39 #[.int .u8 k, .int .u64 n, .bool p] w fun e w' => e = .returned (szV k (if p = true then -(n : Int) else n)) ∧ Below w.heap.size w w' := by
  cases p
  · exact sizedR_pos k w n d (by omega) (by omega)
  · by_cases z : n = 0
    · subst z
      exact sizedR_0 k w d
    · exact sizedR_neg k w n d (by omega) (by omega)
section
variable (k b : Int) (s : ByteArray) (w : World)
set_option maxRecDepth 100000 in
set_option maxHeartbeats 1000000 in
theorem frR_n (x : Nat) (hx : x < 18446744073709551616) (d : 2 ≤ k ∧ k ≤ 13) : Calls Tryz.prog 17 #[.int .u8 k, V 18 x s] w fun e w' => e = .returned (if finB x = true ∧ whN x < 18446744073709551616 then szV k (flN x) else .tuple #[V 0 0 E0, .int .i64 7]) ∧ Below w.heap.size w w' := by
  have k1 : (k == 1) = false := by simp; omega
  have WR : Hid (∀ w, Calls Tryz.prog 37 #[.int .u8 k] w fun e w' => e = .returned (.int .i64 (widN k)) ∧ w' = w) := fun w => WidthR_is k w (by omega)
  have wd : (widN k == 0) = false := by
    unfold widN
    rcases (by omega : k = 2 ∨ k = 3 ∨ k = 4 ∨ k = 5 ∨ k = 6 ∨ k = 7 ∨ k = 8 ∨ k = 9 ∨ k = 10 ∨ k = 11 ∨ k = 12 ∨ k = 13) with rfl | rfl | rfl | rfl | rfl | rfl | rfl | rfl | rfl | rfl | rfl | rfl <;> decide
  generalize widN k = wl at *
  have aI := andI x hx
  by_cases f : finB x = true
  · have ff := (fin_iff x).1 f
    have nI : (((x / 4503599627370496 % 2048 * 4503599627370496 : Nat) : Int) == 9218868437227405312) = false := by simp; omega
    have Wy := wholeR_yes x hx
    by_cases g : whN x < 18446744073709551616
    · rw [if_pos ⟨f, g⟩]
      have Wh : Hid (∀ w, Calls Tryz.prog 38 #[.int .u64 x] w fun e w' => e = .returned (.tuple #[.int .u64 (whN x : Int), .bool (x / 9223372036854775808 == 1), .bool true]) ∧ Below w.heap.size w w') := Wy g
      have S0 : Hid _ := fun w => sizedR_x k (whN x) (x / 9223372036854775808 == 1) d g w
      have en : (if (x / 9223372036854775808 == 1) = true then -(whN x : Int) else whN x) = flN x := by
        unfold flN
        by_cases c : x / 9223372036854775808 = 1
        · rw [if_pos (by simpa using c), if_pos (by omega)]
        · rw [if_neg (by simpa using c), if_neg (by omega)]
      rw [en] at S0
      obtain ⟨k', b', f', ef⟩ := sz_form k (flN x)
      rw [ef] at S0 ⊢
      have SZ : Hid (∀ w, Calls Tryz.prog 39 #[.int .u8 k, .int .u64 (whN x : Int), .bool (x / 9223372036854775808 == 1)] w fun e w' => e = .returned (.tuple #[V k' b' E0, .int .i64 f']) ∧ Below w.heap.size w w') := S0.out
      clear Wy en ef S0 f ff g
      generalize x / 4503599627370496 % 2048 * 4503599627370496 = I at *
      generalize (x / 9223372036854775808 == 1) = p at *
      generalize whN x = n at *
      go_enter Tryz.func17, Tryz.ntmps17
      go_wp2_with (first
        | (go_at_call 37; refine (WR.out _).mono ?_; rintro e w2 ⟨rfl, rfl⟩)
        | (go_at_call 38; refine (Wh.out _).mono ?_; rintro e w3 ⟨rfl, hb⟩; obtain ⟨z0, z1, q0, q1, q2, q3, q4, q5, q6, HB, z2, q7, q8, q9, q10⟩ := step_box3R hb; clear hb)
        | (go_at_call 39; refine (SZ.out _).mono ?_; rintro e w4 ⟨rfl, hb4⟩; obtain ⟨u0, l1, l2⟩ := step1C hb4 z1))
      exact bodyPost_ret (v := .tuple #[V k' b' E0, .int .i64 f']) (by simp [results, Tryz.results17, go_sem, l1, q3, q4, q5]) rfl ⟨rfl, (((HB.trans (hb4.mono (Nat.le_of_lt z0))).setCell (by simp) _).setCell (by simp) _).setCell (by simp) _⟩
    · rw [if_neg (fun q => g q.2)]
      have Wn : Hid (∀ w, Calls Tryz.prog 38 #[.int .u64 x] w fun e w' => (∃ n : Int, e = .returned (.tuple #[.int .u64 n, .bool (x / 9223372036854775808 == 1), .bool false])) ∧ Below w.heap.size w w') := wholeR_no x hx f (by omega)
      clear Wy f ff g
      generalize x / 4503599627370496 % 2048 * 4503599627370496 = I at *
      generalize (x / 9223372036854775808 == 1) = p at *
      go_enter Tryz.func17, Tryz.ntmps17
      go_wp2_with (first
        | (go_at_call 37; refine (WR.out _).mono ?_; rintro e w2 ⟨rfl, rfl⟩)
        | (go_at_call 38; refine (Wn.out _).mono ?_; rintro e w3 ⟨⟨n, rfl⟩, hb⟩; obtain ⟨z0, z1, q0, q1, q2, q3, q4, q5, q6, HB, z2, q7, q8, q9, q10⟩ := step_box3R hb; clear hb))
      exact bodyPost_ret (v := .tuple #[V 0 0 E0, .int .i64 7]) (by simp [results, Tryz.results17, go_sem, q3, q4, q5]) rfl ⟨rfl, ((HB.setCell (by simp) _).setCell (by simp) _).setCell (by simp) _⟩
  · rw [if_neg (fun q => f q.1)]
    have ff := (fin_not x).1 (by simpa using f)
    rw [ff] at aI
    clear f ff
    go_enter Tryz.func17, Tryz.ntmps17
    go_wp2_with (first
      | (go_at_call 37; refine (WR.out _).mono ?_; rintro e w2 ⟨rfl, rfl⟩))
    exact bodyPost_ret (v := .tuple #[V 0 0 E0, .int .i64 7]) (by simp [results, Tryz.results17, go_sem]) rfl ⟨rfl, by go_grown⟩
set_option maxRecDepth 100000 in
set_option maxHeartbeats 1000000 in
theorem frR_8 (hk : 14 ≤ k ∧ k < 256) : Calls Tryz.prog 17 #[.int .u8 k, V 18 b s] w fun e w' => e = .returned (.tuple #[V 0 0 E0, .int .i64 8]) ∧ Below w.heap.size w w' := by
  have k1 : (k == 1) = false := by simp; omega
  have W0 : widN k = 0 := by
    unfold widN
    rw [if_neg (by omega), if_neg (by omega), if_neg (by omega), if_neg (by omega)]
  have WR : Hid (∀ w, Calls Tryz.prog 37 #[.int .u8 k] w fun e w' => e = .returned (.int .i64 0) ∧ w' = w) := fun w => by rw [← W0]; exact WidthR_is k w (by omega)
  clear W0
  go_enter Tryz.func17, Tryz.ntmps17
  go_wp2_with (first
    | (go_at_call 37; refine (WR.out _).mono ?_; rintro e w2 ⟨rfl, rfl⟩))
  exact bodyPost_ret (v := .tuple #[V 0 0 E0, .int .i64 8]) (by simp [results, Tryz.results17, go_sem]) rfl ⟨rfl, by go_grown⟩
set_option maxRecDepth 100000 in
set_option maxHeartbeats 1000000 in
theorem frR_1 (x : Nat) (hx : x < 18446744073709551616) (m : (x : Int) = 9221120237041090561 ∨ fnan x = false) : Calls Tryz.prog 17 #[.int .u8 1, V 18 x s] w fun e w' => e = .returned (frX 1 x) ∧ Below w.heap.size w w' := by
  unfold frX
  rw [if_pos rfl]
  cases n : fnan x
  · rw [if_neg (by decide)]
    have e0 : ((x : Int) == 9221120237041090561) = false := by
      rw [beq_eq_false_iff_ne]
      intro q
      have : x = 9221120237041090561 := by omega
      subst this
      have : fnan 9221120237041090561 = true := by decide
      rw [this] at n
      cases n
    have e1 : (IntKind.u64.wrap ((x : Int) * 2) != 0) = !(x % 9223372036854775808 == 0) := by
      rw [IntKind.wrap_u64, Bool.eq_iff_iff]
      simp
      omega
    clear m n
    generalize (!(x % 9223372036854775808 == 0)) = p at *
    go_enter Tryz.func17, Tryz.ntmps17
    go_wp2_with (first
      | (go_at_call 36; refine (BoolR_of _ _).mono ?_; rintro e w3 ⟨rfl, hb⟩; obtain ⟨z0, z1, q0, q1, q2, q3, q4, q5, q6, HB, z2, q7, q8, q9, q10⟩ := step_box3R hb; clear hb))
    exact bodyPost_ret (v := .tuple #[V 1 (tb p) E0, .int .i64 0]) (by simp [results, Tryz.results17, go_sem, q3, q4, q5]) rfl ⟨rfl, ((HB.setCell (by simp) _).setCell (by simp) _).setCell (by simp) _⟩
  · rw [if_pos rfl]
    have e0 : (x : Int) = 9221120237041090561 := by
      rcases m with m | m
      · exact m
      · rw [n] at m; cases m
    have e1 : ((x : Int) == 9221120237041090561) = true := by simpa using e0
    clear m n e0
    go_enter Tryz.func17, Tryz.ntmps17
    go_wp2
    exact bodyPost_ret (v := .tuple #[V 0 0 E0, .int .i64 7]) (by simp [results, Tryz.results17, go_sem]) rfl ⟨rfl, by go_grown⟩
end
end Go.Proofs.YtlaamkfpdompjaaGreatDoor
namespace Go.Proofs.YtlaamkfpdompjaaGreatDoor
set_option linter.unusedVariables false
open Go.RowKit
section
variable (l kv b : Int) (w : World)
set_option maxRecDepth 100000 in
set_option maxHeartbeats 2000000 in
theorem fwx_one_neg (h0 : 9223372036854775808 ≤ b) (h1 : b < 18446744073709551616) (hk : 2 ≤ kv ∧ kv ≤ 5) :
    Calls Tryz.prog 21 #[.int .u8 1, V kv b E0] w fun e w' => e = .returned (.tuple #[V 1 (tb (!(b == 0))) E0, .int .i64 0]) ∧ Below w.heap.size w w' := by
  have hk2 : 0 ≤ kv ∧ kv < 256 := by omega
  have wb : wrap64 b = b - 18446744073709551616 := by unfold wrap64; omega
  have ng : IntKind.u64.wrap (-b) = 18446744073709551616 - b := by rw [IntKind.wrap_u64]; omega
  obtain ⟨p, ep⟩ : ∃ p, (!(b == 0)) = p := ⟨_, rfl⟩
  have ep2 : ((18446744073709551616 - b) != 0) = p := by rw [← ep, Bool.eq_iff_iff]; simp; omega
  rw [ep]
  clear ep
  go_enter Tryz.func21, Tryz.ntmps21
  go_wp2_with (first
    | (go_at_call 43; refine (SignedR_is kv _ true hk2 (by symm; simp; omega)).mono ?_; rintro e w2 ⟨rfl, rfl⟩)
    | (go_at_call 36; refine (BoolR_of _ _).mono ?_; rintro e w1 ⟨rfl, hb⟩; obtain ⟨z0, z1, q0, q1, q2, q3, q4, q5, q6, HB⟩ := step_box hb; clear hb))
  exact bodyPost_ret (v := .tuple #[V 1 (tb p) E0, .int .i64 0]) (by simp [results, Tryz.results21, go_sem, q3, q4, q5]) rfl ⟨rfl, ((HB.setCell (by simp) _).setCell (by simp) _).setCell (by simp) _⟩
set_option maxRecDepth 100000 in
set_option maxHeartbeats 2000000 in
theorem fwx_two_neg (h0 : 9223372036854775808 ≤ b) (h1 : b < 18446744073709551616) (hk : 2 ≤ kv ∧ kv ≤ 5) (d : 2 ≤ l ∧ l ≤ 13) :
    Calls Tryz.prog 21 #[.int .u8 l, V kv b E0] w fun e w' => e = .returned (szV l (b - 18446744073709551616)) ∧ Below w.heap.size w w' := by
  have hk2 : 0 ≤ kv ∧ kv < 256 := by omega
  have wb : wrap64 b = b - 18446744073709551616 := by unfold wrap64; omega
  have ng : IntKind.u64.wrap (-b) = 18446744073709551616 - b := by rw [IntKind.wrap_u64]; omega
  have k1 : (l == 1) = false := by simp; omega
  have k18 : (l == 18) = false := by simp; omega
  have S0 : Hid (∀ w, Calls Tryz.prog 39 #[.int .u8 l, .int .u64 (18446744073709551616 - b), .bool true] w fun e w' => e = .returned (szV l (b - 18446744073709551616)) ∧ Below w.heap.size w w') := fun w => by have := sizedR_neg l w (18446744073709551616 - b) d (by omega) (by omega); rwa [show -(18446744073709551616 - b) = (b - 18446744073709551616) by omega] at this
  obtain ⟨k', b', g, eq⟩ := sz_form l (b - 18446744073709551616)
  rw [eq] at S0 ⊢
  have SZ : Hid (∀ w x n, x = true → n = (18446744073709551616 - b) → Calls Tryz.prog 39 #[.int .u8 l, .int .u64 n, .bool x] w fun e w' => e = .returned (.tuple #[V k' b' E0, .int .i64 g]) ∧ Below w.heap.size w w') := fun w x n hx hn => by subst hx; subst hn; exact S0.out w
  clear S0 eq
  have WR : Hid (∀ w, Calls Tryz.prog 37 #[.int .u8 l] w fun e w' => e = .returned (.int .i64 (widN l)) ∧ w' = w) := fun w => WidthR_is l w (by omega)
  have wd : 0 < widN l := by
    unfold widN
    rcases (by omega : l = 2 ∨ l = 3 ∨ l = 4 ∨ l = 5 ∨ l = 6 ∨ l = 7 ∨ l = 8 ∨ l = 9 ∨ l = 10 ∨ l = 11 ∨ l = 12 ∨ l = 13) with rfl | rfl | rfl | rfl | rfl | rfl | rfl | rfl | rfl | rfl | rfl | rfl <;> decide
  generalize widN l = wl at *
  go_enter Tryz.func21, Tryz.ntmps21
  go_wp2_with (first
    | (go_at_call 43; refine (SignedR_is kv _ true hk2 (by symm; simp; omega)).mono ?_; rintro e w2 ⟨rfl, rfl⟩)
    | (go_at_call 37; refine (WR.out _).mono ?_; rintro e w2 ⟨rfl, rfl⟩)
    | (go_at_call 39; refine (SZ.out _ _ _ (by first | rfl | (simp; omega)) (by first | rfl | omega)).mono ?_; rintro e w1 ⟨rfl, hb⟩; obtain ⟨z0, z1, q0, q1, q2, q3, q4, q5, q6, HB⟩ := step_box hb; clear hb))
  exact bodyPost_ret (v := .tuple #[V k' b' E0, .int .i64 g]) (by simp [results, Tryz.results21, go_sem, q3, q4, q5]) rfl ⟨rfl, ((HB.setCell (by simp) _).setCell (by simp) _).setCell (by simp) _⟩
set_option maxRecDepth 100000 in
set_option maxHeartbeats 2000000 in
theorem fwx_real_neg (h0 : 9223372036854775808 ≤ b) (h1 : b < 18446744073709551616) (hk : 2 ≤ kv ∧ kv ≤ 5) :
    Calls Tryz.prog 21 #[.int .u8 18, V kv b E0] w fun e w' => e = .returned (.tuple #[V 18 (lrealB (floatOfInt .f64 (b - 18446744073709551616))) E0, .int .i64 0]) ∧ Below w.heap.size w w' := by
  have hk2 : 0 ≤ kv ∧ kv < 256 := by omega
  have wb : wrap64 b = b - 18446744073709551616 := by unfold wrap64; omega
  have ng : IntKind.u64.wrap (-b) = 18446744073709551616 - b := by rw [IntKind.wrap_u64]; omega
  go_enter Tryz.func21, Tryz.ntmps21
  go_wp2_with (first
    | (go_at_call 43; refine (SignedR_is kv _ true hk2 (by symm; simp; omega)).mono ?_; rintro e w2 ⟨rfl, rfl⟩)
    | (go_at_call 44; refine (LrealR_s _ _).mono ?_; rintro e w1 ⟨rfl, hb⟩; obtain ⟨z0, z1, q0, q1, q2, q3, q4, q5, q6, HB⟩ := step_box hb; clear hb))
  exact bodyPost_ret (v := .tuple #[V 18 (lrealB (floatOfInt .f64 (b - 18446744073709551616))) E0, .int .i64 0]) (by simp [results, Tryz.results21, go_sem, q3, q4, q5]) rfl ⟨rfl, ((HB.setCell (by simp) _).setCell (by simp) _).setCell (by simp) _⟩
set_option maxRecDepth 100000 in
set_option maxHeartbeats 2000000 in
theorem fwx_one_sp (h0 : 0 ≤ b) (h1 : b < 9223372036854775808) (hk : 2 ≤ kv ∧ kv ≤ 5) :
    Calls Tryz.prog 21 #[.int .u8 1, V kv b E0] w fun e w' => e = .returned (.tuple #[V 1 (tb (!(b == 0))) E0, .int .i64 0]) ∧ Below w.heap.size w w' := by
  have hk2 : 0 ≤ kv ∧ kv < 256 := by omega
  have wb : wrap64 b = b := by unfold wrap64; omega
  obtain ⟨p, ep⟩ : ∃ p, (!(b == 0)) = p := ⟨_, rfl⟩
  have ep2 : (b != 0) = p := by rw [← ep, Bool.eq_iff_iff]; simp
  rw [ep]
  clear ep
  go_enter Tryz.func21, Tryz.ntmps21
  go_wp2_with (first
    | (go_at_call 43; refine (SignedR_is kv _ true hk2 (by symm; simp; omega)).mono ?_; rintro e w2 ⟨rfl, rfl⟩)
    | (go_at_call 36; refine (BoolR_of _ _).mono ?_; rintro e w1 ⟨rfl, hb⟩; obtain ⟨z0, z1, q0, q1, q2, q3, q4, q5, q6, HB⟩ := step_box hb; clear hb))
  exact bodyPost_ret (v := .tuple #[V 1 (tb p) E0, .int .i64 0]) (by simp [results, Tryz.results21, go_sem, q3, q4, q5]) rfl ⟨rfl, ((HB.setCell (by simp) _).setCell (by simp) _).setCell (by simp) _⟩
set_option maxRecDepth 100000 in
set_option maxHeartbeats 2000000 in
theorem fwx_two_sp (h0 : 0 ≤ b) (h1 : b < 9223372036854775808) (hk : 2 ≤ kv ∧ kv ≤ 5) (d : 2 ≤ l ∧ l ≤ 13) :
    Calls Tryz.prog 21 #[.int .u8 l, V kv b E0] w fun e w' => e = .returned (szV l b) ∧ Below w.heap.size w w' := by
  have hk2 : 0 ≤ kv ∧ kv < 256 := by omega
  have wb : wrap64 b = b := by unfold wrap64; omega
  have k1 : (l == 1) = false := by simp; omega
  have k18 : (l == 18) = false := by simp; omega
  have S0 : Hid (∀ w, Calls Tryz.prog 39 #[.int .u8 l, .int .u64 b, .bool false] w fun e w' => e = .returned (szV l b) ∧ Below w.heap.size w w') := fun w => sizedR_pos l w b d h0 (by omega)
  obtain ⟨k', b', g, eq⟩ := sz_form l b
  rw [eq] at S0 ⊢
  have SZ : Hid (∀ w x n, x = false → n = b → Calls Tryz.prog 39 #[.int .u8 l, .int .u64 n, .bool x] w fun e w' => e = .returned (.tuple #[V k' b' E0, .int .i64 g]) ∧ Below w.heap.size w w') := fun w x n hx hn => by subst hx; subst hn; exact S0.out w
  clear S0 eq
  have WR : Hid (∀ w, Calls Tryz.prog 37 #[.int .u8 l] w fun e w' => e = .returned (.int .i64 (widN l)) ∧ w' = w) := fun w => WidthR_is l w (by omega)
  have wd : 0 < widN l := by
    unfold widN
    rcases (by omega : l = 2 ∨ l = 3 ∨ l = 4 ∨ l = 5 ∨ l = 6 ∨ l = 7 ∨ l = 8 ∨ l = 9 ∨ l = 10 ∨ l = 11 ∨ l = 12 ∨ l = 13) with rfl | rfl | rfl | rfl | rfl | rfl | rfl | rfl | rfl | rfl | rfl | rfl <;> decide
  generalize widN l = wl at *
  go_enter Tryz.func21, Tryz.ntmps21
  go_wp2_with (first
    | (go_at_call 43; refine (SignedR_is kv _ true hk2 (by symm; simp; omega)).mono ?_; rintro e w2 ⟨rfl, rfl⟩)
    | (go_at_call 37; refine (WR.out _).mono ?_; rintro e w2 ⟨rfl, rfl⟩)
    | (go_at_call 39; refine (SZ.out _ _ _ (by first | rfl | (simp; omega)) (by first | rfl | omega)).mono ?_; rintro e w1 ⟨rfl, hb⟩; obtain ⟨z0, z1, q0, q1, q2, q3, q4, q5, q6, HB⟩ := step_box hb; clear hb))
  exact bodyPost_ret (v := .tuple #[V k' b' E0, .int .i64 g]) (by simp [results, Tryz.results21, go_sem, q3, q4, q5]) rfl ⟨rfl, ((HB.setCell (by simp) _).setCell (by simp) _).setCell (by simp) _⟩
set_option maxRecDepth 100000 in
set_option maxHeartbeats 2000000 in
theorem fwx_real_sp (h0 : 0 ≤ b) (h1 : b < 9223372036854775808) (hk : 2 ≤ kv ∧ kv ≤ 5) :
    Calls Tryz.prog 21 #[.int .u8 18, V kv b E0] w fun e w' => e = .returned (.tuple #[V 18 (lrealB (floatOfInt .f64 b)) E0, .int .i64 0]) ∧ Below w.heap.size w w' := by
  have hk2 : 0 ≤ kv ∧ kv < 256 := by omega
  have wb : wrap64 b = b := by unfold wrap64; omega
  go_enter Tryz.func21, Tryz.ntmps21
  go_wp2_with (first
    | (go_at_call 43; refine (SignedR_is kv _ true hk2 (by symm; simp; omega)).mono ?_; rintro e w2 ⟨rfl, rfl⟩)
    | (go_at_call 44; refine (LrealR_s _ _).mono ?_; rintro e w1 ⟨rfl, hb⟩; obtain ⟨z0, z1, q0, q1, q2, q3, q4, q5, q6, HB⟩ := step_box hb; clear hb))
  exact bodyPost_ret (v := .tuple #[V 18 (lrealB (floatOfInt .f64 b)) E0, .int .i64 0]) (by simp [results, Tryz.results21, go_sem, q3, q4, q5]) rfl ⟨rfl, ((HB.setCell (by simp) _).setCell (by simp) _).setCell (by simp) _⟩
set_option maxRecDepth 100000 in
set_option maxHeartbeats 2000000 in
theorem fwx_one_us (h0 : 0 ≤ b) (h1 : b < 18446744073709551616) (hk : kv = 1 ∨ 6 ≤ kv ∧ kv ≤ 13) :
    Calls Tryz.prog 21 #[.int .u8 1, V kv b E0] w fun e w' => e = .returned (.tuple #[V 1 (tb (!(b == 0))) E0, .int .i64 0]) ∧ Below w.heap.size w w' := by
  have hk2 : 0 ≤ kv ∧ kv < 256 := by omega
  obtain ⟨p, ep⟩ : ∃ p, (!(b == 0)) = p := ⟨_, rfl⟩
  have ep2 : (b != 0) = p := by rw [← ep, Bool.eq_iff_iff]; simp
  rw [ep]
  clear ep
  go_enter Tryz.func21, Tryz.ntmps21
  go_wp2_with (first
    | (go_at_call 43; refine (SignedR_is kv _ false hk2 (by symm; simp; omega)).mono ?_; rintro e w2 ⟨rfl, rfl⟩)
    | (go_at_call 36; refine (BoolR_of _ _).mono ?_; rintro e w1 ⟨rfl, hb⟩; obtain ⟨z0, z1, q0, q1, q2, q3, q4, q5, q6, HB⟩ := step_box hb; clear hb))
  exact bodyPost_ret (v := .tuple #[V 1 (tb p) E0, .int .i64 0]) (by simp [results, Tryz.results21, go_sem, q3, q4, q5]) rfl ⟨rfl, ((HB.setCell (by simp) _).setCell (by simp) _).setCell (by simp) _⟩
set_option maxRecDepth 100000 in
set_option maxHeartbeats 2000000 in
theorem fwx_two_us (h0 : 0 ≤ b) (h1 : b < 18446744073709551616) (hk : kv = 1 ∨ 6 ≤ kv ∧ kv ≤ 13) (d : 2 ≤ l ∧ l ≤ 13) :
    Calls Tryz.prog 21 #[.int .u8 l, V kv b E0] w fun e w' => e = .returned (szV l b) ∧ Below w.heap.size w w' := by
  have hk2 : 0 ≤ kv ∧ kv < 256 := by omega
  have k1 : (l == 1) = false := by simp; omega
  have k18 : (l == 18) = false := by simp; omega
  have S0 : Hid (∀ w, Calls Tryz.prog 39 #[.int .u8 l, .int .u64 b, .bool false] w fun e w' => e = .returned (szV l b) ∧ Below w.heap.size w w') := fun w => sizedR_pos l w b d h0 (by omega)
  obtain ⟨k', b', g, eq⟩ := sz_form l b
  rw [eq] at S0 ⊢
  have SZ : Hid (∀ w x n, x = false → n = b → Calls Tryz.prog 39 #[.int .u8 l, .int .u64 n, .bool x] w fun e w' => e = .returned (.tuple #[V k' b' E0, .int .i64 g]) ∧ Below w.heap.size w w') := fun w x n hx hn => by subst hx; subst hn; exact S0.out w
  clear S0 eq
  have WR : Hid (∀ w, Calls Tryz.prog 37 #[.int .u8 l] w fun e w' => e = .returned (.int .i64 (widN l)) ∧ w' = w) := fun w => WidthR_is l w (by omega)
  have wd : 0 < widN l := by
    unfold widN
    rcases (by omega : l = 2 ∨ l = 3 ∨ l = 4 ∨ l = 5 ∨ l = 6 ∨ l = 7 ∨ l = 8 ∨ l = 9 ∨ l = 10 ∨ l = 11 ∨ l = 12 ∨ l = 13) with rfl | rfl | rfl | rfl | rfl | rfl | rfl | rfl | rfl | rfl | rfl | rfl <;> decide
  generalize widN l = wl at *
  go_enter Tryz.func21, Tryz.ntmps21
  go_wp2_with (first
    | (go_at_call 43; refine (SignedR_is kv _ false hk2 (by symm; simp; omega)).mono ?_; rintro e w2 ⟨rfl, rfl⟩)
    | (go_at_call 37; refine (WR.out _).mono ?_; rintro e w2 ⟨rfl, rfl⟩)
    | (go_at_call 39; refine (SZ.out _ _ _ (by first | rfl | (simp; omega)) (by first | rfl | omega)).mono ?_; rintro e w1 ⟨rfl, hb⟩; obtain ⟨z0, z1, q0, q1, q2, q3, q4, q5, q6, HB⟩ := step_box hb; clear hb))
  exact bodyPost_ret (v := .tuple #[V k' b' E0, .int .i64 g]) (by simp [results, Tryz.results21, go_sem, q3, q4, q5]) rfl ⟨rfl, ((HB.setCell (by simp) _).setCell (by simp) _).setCell (by simp) _⟩
set_option maxRecDepth 100000 in
set_option maxHeartbeats 2000000 in
theorem fwx_real_us (h0 : 0 ≤ b) (h1 : b < 18446744073709551616) (hk : kv = 1 ∨ 6 ≤ kv ∧ kv ≤ 13) :
    Calls Tryz.prog 21 #[.int .u8 18, V kv b E0] w fun e w' => e = .returned (.tuple #[V 18 (lrealB (floatOfInt .f64 b)) E0, .int .i64 0]) ∧ Below w.heap.size w w' := by
  have hk2 : 0 ≤ kv ∧ kv < 256 := by omega
  go_enter Tryz.func21, Tryz.ntmps21
  go_wp2_with (first
    | (go_at_call 43; refine (SignedR_is kv _ false hk2 (by symm; simp; omega)).mono ?_; rintro e w2 ⟨rfl, rfl⟩)
    | (go_at_call 44; refine (LrealR_s _ _).mono ?_; rintro e w1 ⟨rfl, hb⟩; obtain ⟨z0, z1, q0, q1, q2, q3, q4, q5, q6, HB⟩ := step_box hb; clear hb))
  exact bodyPost_ret (v := .tuple #[V 18 (lrealB (floatOfInt .f64 b)) E0, .int .i64 0]) (by simp [results, Tryz.results21, go_sem, q3, q4, q5]) rfl ⟨rfl, ((HB.setCell (by simp) _).setCell (by simp) _).setCell (by simp) _⟩
end
end Go.Proofs.YtlaamkfpdompjaaGreatDoor
namespace Go.Proofs.YtlaamkfpdompjaaGreatDoor
set_option linter.unusedVariables false
open Go.RowKit
section
variable (l kv b : Int) (w : World)
set_option maxRecDepth 100000 in
set_option maxHeartbeats 2000000 in
theorem fwx_text_neg (h0 : 9223372036854775808 ≤ b) (h1 : b < 18446744073709551616) (hk : 2 ≤ kv ∧ kv ≤ 5) (k9 : kv ≤ 9) (t : ByteArray) (ht : t.size ≤ 21) (hP : Pow w) (PR : Hid (∀ w, Pow w → Calls Tryz.prog 47 #[V kv b E0] w fun e w' => e = .returned (.string t) ∧ Below w.heap.size w w')) :
    Calls Tryz.prog 21 #[.int .u8 19, V kv b E0] w fun e w' => e = .returned (.tuple #[V 19 0 t, .int .i64 0]) ∧ Below w.heap.size w w' := by
  have hk2 : 0 ≤ kv ∧ kv < 256 := by omega
  have wb : wrap64 b = b - 18446744073709551616 := by unfold wrap64; omega
  have ng : IntKind.u64.wrap (-b) = 18446744073709551616 - b := by rw [IntKind.wrap_u64]; omega
  have HP : Hid _ := pow_below hP (((Below.refl w.heap.size w).alloc (Nat.le_refl _) (.cells #[.int .u8 kv, .int .u64 b, .string E0] 25)).alloc (by simp) (.cells #[.int .u8 0, .int .u64 0, .string ⟨#[]⟩] 25))
  clear hP
  go_enter Tryz.func21, Tryz.ntmps21
  go_wp2_with (first
    | (go_at_call 43; refine (SignedR_is kv _ true hk2 (by symm; simp; omega)).mono ?_; rintro e w2 ⟨rfl, rfl⟩)
    | (go_at_call 37; refine (WidthR_is 19 _ (by omega)).mono ?_; rintro e w2 ⟨rfl, rfl⟩)
    | (go_at_call 45; refine (RowR_is kv _ false hk2 (by symm; simp; omega)).mono ?_; rintro e w2 ⟨rfl, rfl⟩)
    | (go_at_call 47; refine (PR.out _ HP.out).mono ?_; rintro e w1 ⟨rfl, hb⟩; obtain ⟨z0, z1, q0, q1, q2, q3, q4, q5, q6, HB⟩ := step_box hb; clear hb)
    | (go_at_call 46; refine (TextR_of _ _ (by unfold maxLen; omega)).mono ?_; rw [textR, if_pos (by omega)]; rintro e w4 ⟨rfl, hb4⟩; obtain ⟨u0, u1, l0, l1, l2⟩ := step2 hb4 z0 z1))
  exact bodyPost_ret (v := .tuple #[V 19 0 t, .int .i64 0]) (by simp [results, Tryz.results21, go_sem, l1, q3, q4, q5]) rfl ⟨rfl, (((HB.trans (hb4.mono (Nat.le_of_lt z0))).setCell (by simp) _).setCell (by simp) _).setCell (by simp) _⟩
set_option maxRecDepth 100000 in
set_option maxHeartbeats 2000000 in
theorem fwx_tx_neg (h0 : 9223372036854775808 ≤ b) (h1 : b < 18446744073709551616) (hk : 2 ≤ kv ∧ kv ≤ 5) (d : 14 ≤ l ∧ l ≤ 17) (k5 : (kv == 5) = false) :
    Calls Tryz.prog 21 #[.int .u8 l, V kv b E0] w fun e w' => e = .returned (.tuple #[V 0 0 E0, .int .i64 8]) ∧ Below w.heap.size w w' := by
  have hk2 : 0 ≤ kv ∧ kv < 256 := by omega
  have wb : wrap64 b = b - 18446744073709551616 := by unfold wrap64; omega
  have ng : IntKind.u64.wrap (-b) = 18446744073709551616 - b := by rw [IntKind.wrap_u64]; omega
  have k1 : (l == 1) = false := by simp; omega
  have k18 : (l == 18) = false := by simp; omega
  have k19 : (l == 19) = false := by simp; omega
  have WR : Hid (∀ w, Calls Tryz.prog 37 #[.int .u8 l] w fun e w' => e = .returned (.int .i64 0) ∧ w' = w) := fun w => by
    have := WidthR_is l w (by omega)
    rwa [show widN l = 0 by unfold widN; rw [if_neg (by omega), if_neg (by omega), if_neg (by omega), if_neg (by omega)]] at this
  go_enter Tryz.func21, Tryz.ntmps21
  go_wp2_with (first
    | (go_at_call 43; refine (SignedR_is kv _ true hk2 (by symm; simp; omega)).mono ?_; rintro e w2 ⟨rfl, rfl⟩)
    | (go_at_call 37; refine (WR.out _).mono ?_; rintro e w2 ⟨rfl, rfl⟩)
    | (go_at_call 19; refine (TimeR_is l _ true (by omega) (by symm; simp; omega)).mono ?_; rintro e w2 ⟨rfl, rfl⟩))
  exact bodyPost_ret (v := .tuple #[V 0 0 E0, .int .i64 8]) (by simp [results, Tryz.results21, go_sem]) rfl ⟨rfl, by go_grown⟩
set_option maxRecDepth 100000 in
set_option maxHeartbeats 2000000 in
theorem fwx_text_sp (h0 : 0 ≤ b) (h1 : b < 9223372036854775808) (hk : 2 ≤ kv ∧ kv ≤ 5) (k9 : kv ≤ 9) (t : ByteArray) (ht : t.size ≤ 21) (hP : Pow w) (PR : Hid (∀ w, Pow w → Calls Tryz.prog 47 #[V kv b E0] w fun e w' => e = .returned (.string t) ∧ Below w.heap.size w w')) :
    Calls Tryz.prog 21 #[.int .u8 19, V kv b E0] w fun e w' => e = .returned (.tuple #[V 19 0 t, .int .i64 0]) ∧ Below w.heap.size w w' := by
  have hk2 : 0 ≤ kv ∧ kv < 256 := by omega
  have wb : wrap64 b = b := by unfold wrap64; omega
  have HP : Hid _ := pow_below hP (((Below.refl w.heap.size w).alloc (Nat.le_refl _) (.cells #[.int .u8 kv, .int .u64 b, .string E0] 25)).alloc (by simp) (.cells #[.int .u8 0, .int .u64 0, .string ⟨#[]⟩] 25))
  clear hP
  go_enter Tryz.func21, Tryz.ntmps21
  go_wp2_with (first
    | (go_at_call 43; refine (SignedR_is kv _ true hk2 (by symm; simp; omega)).mono ?_; rintro e w2 ⟨rfl, rfl⟩)
    | (go_at_call 37; refine (WidthR_is 19 _ (by omega)).mono ?_; rintro e w2 ⟨rfl, rfl⟩)
    | (go_at_call 45; refine (RowR_is kv _ false hk2 (by symm; simp; omega)).mono ?_; rintro e w2 ⟨rfl, rfl⟩)
    | (go_at_call 47; refine (PR.out _ HP.out).mono ?_; rintro e w1 ⟨rfl, hb⟩; obtain ⟨z0, z1, q0, q1, q2, q3, q4, q5, q6, HB⟩ := step_box hb; clear hb)
    | (go_at_call 46; refine (TextR_of _ _ (by unfold maxLen; omega)).mono ?_; rw [textR, if_pos (by omega)]; rintro e w4 ⟨rfl, hb4⟩; obtain ⟨u0, u1, l0, l1, l2⟩ := step2 hb4 z0 z1))
  exact bodyPost_ret (v := .tuple #[V 19 0 t, .int .i64 0]) (by simp [results, Tryz.results21, go_sem, l1, q3, q4, q5]) rfl ⟨rfl, (((HB.trans (hb4.mono (Nat.le_of_lt z0))).setCell (by simp) _).setCell (by simp) _).setCell (by simp) _⟩
set_option maxRecDepth 100000 in
set_option maxHeartbeats 2000000 in
theorem fwx_tx_sp (h0 : 0 ≤ b) (h1 : b < 9223372036854775808) (hk : 2 ≤ kv ∧ kv ≤ 5) (d : 14 ≤ l ∧ l ≤ 17) (k5 : (kv == 5) = false) :
    Calls Tryz.prog 21 #[.int .u8 l, V kv b E0] w fun e w' => e = .returned (.tuple #[V 0 0 E0, .int .i64 8]) ∧ Below w.heap.size w w' := by
  have hk2 : 0 ≤ kv ∧ kv < 256 := by omega
  have wb : wrap64 b = b := by unfold wrap64; omega
  have k1 : (l == 1) = false := by simp; omega
  have k18 : (l == 18) = false := by simp; omega
  have k19 : (l == 19) = false := by simp; omega
  have WR : Hid (∀ w, Calls Tryz.prog 37 #[.int .u8 l] w fun e w' => e = .returned (.int .i64 0) ∧ w' = w) := fun w => by
    have := WidthR_is l w (by omega)
    rwa [show widN l = 0 by unfold widN; rw [if_neg (by omega), if_neg (by omega), if_neg (by omega), if_neg (by omega)]] at this
  go_enter Tryz.func21, Tryz.ntmps21
  go_wp2_with (first
    | (go_at_call 43; refine (SignedR_is kv _ true hk2 (by symm; simp; omega)).mono ?_; rintro e w2 ⟨rfl, rfl⟩)
    | (go_at_call 37; refine (WR.out _).mono ?_; rintro e w2 ⟨rfl, rfl⟩)
    | (go_at_call 19; refine (TimeR_is l _ true (by omega) (by symm; simp; omega)).mono ?_; rintro e w2 ⟨rfl, rfl⟩))
  exact bodyPost_ret (v := .tuple #[V 0 0 E0, .int .i64 8]) (by simp [results, Tryz.results21, go_sem]) rfl ⟨rfl, by go_grown⟩
set_option maxRecDepth 100000 in
set_option maxHeartbeats 2000000 in
theorem fwx_text_us (h0 : 0 ≤ b) (h1 : b < 18446744073709551616) (hk : kv = 1 ∨ 6 ≤ kv ∧ kv ≤ 13) (k9 : kv ≤ 9) (t : ByteArray) (ht : t.size ≤ 21) (hP : Pow w) (PR : Hid (∀ w, Pow w → Calls Tryz.prog 47 #[V kv b E0] w fun e w' => e = .returned (.string t) ∧ Below w.heap.size w w')) :
    Calls Tryz.prog 21 #[.int .u8 19, V kv b E0] w fun e w' => e = .returned (.tuple #[V 19 0 t, .int .i64 0]) ∧ Below w.heap.size w w' := by
  have hk2 : 0 ≤ kv ∧ kv < 256 := by omega
  have HP : Hid _ := pow_below hP (((Below.refl w.heap.size w).alloc (Nat.le_refl _) (.cells #[.int .u8 kv, .int .u64 b, .string E0] 25)).alloc (by simp) (.cells #[.int .u8 0, .int .u64 0, .string ⟨#[]⟩] 25))
  clear hP
  go_enter Tryz.func21, Tryz.ntmps21
  go_wp2_with (first
    | (go_at_call 43; refine (SignedR_is kv _ false hk2 (by symm; simp; omega)).mono ?_; rintro e w2 ⟨rfl, rfl⟩)
    | (go_at_call 37; refine (WidthR_is 19 _ (by omega)).mono ?_; rintro e w2 ⟨rfl, rfl⟩)
    | (go_at_call 45; refine (RowR_is kv _ false hk2 (by symm; simp; omega)).mono ?_; rintro e w2 ⟨rfl, rfl⟩)
    | (go_at_call 47; refine (PR.out _ HP.out).mono ?_; rintro e w1 ⟨rfl, hb⟩; obtain ⟨z0, z1, q0, q1, q2, q3, q4, q5, q6, HB⟩ := step_box hb; clear hb)
    | (go_at_call 46; refine (TextR_of _ _ (by unfold maxLen; omega)).mono ?_; rw [textR, if_pos (by omega)]; rintro e w4 ⟨rfl, hb4⟩; obtain ⟨u0, u1, l0, l1, l2⟩ := step2 hb4 z0 z1))
  exact bodyPost_ret (v := .tuple #[V 19 0 t, .int .i64 0]) (by simp [results, Tryz.results21, go_sem, l1, q3, q4, q5]) rfl ⟨rfl, (((HB.trans (hb4.mono (Nat.le_of_lt z0))).setCell (by simp) _).setCell (by simp) _).setCell (by simp) _⟩
set_option maxRecDepth 100000 in
set_option maxHeartbeats 2000000 in
theorem fwx_tx_us (h0 : 0 ≤ b) (h1 : b < 18446744073709551616) (hk : kv = 1 ∨ 6 ≤ kv ∧ kv ≤ 13) (d : 14 ≤ l ∧ l ≤ 17) (k5 : (kv == 5) = false) :
    Calls Tryz.prog 21 #[.int .u8 l, V kv b E0] w fun e w' => e = .returned (.tuple #[V 0 0 E0, .int .i64 8]) ∧ Below w.heap.size w w' := by
  have hk2 : 0 ≤ kv ∧ kv < 256 := by omega
  have k1 : (l == 1) = false := by simp; omega
  have k18 : (l == 18) = false := by simp; omega
  have k19 : (l == 19) = false := by simp; omega
  have WR : Hid (∀ w, Calls Tryz.prog 37 #[.int .u8 l] w fun e w' => e = .returned (.int .i64 0) ∧ w' = w) := fun w => by
    have := WidthR_is l w (by omega)
    rwa [show widN l = 0 by unfold widN; rw [if_neg (by omega), if_neg (by omega), if_neg (by omega), if_neg (by omega)]] at this
  go_enter Tryz.func21, Tryz.ntmps21
  go_wp2_with (first
    | (go_at_call 43; refine (SignedR_is kv _ false hk2 (by symm; simp; omega)).mono ?_; rintro e w2 ⟨rfl, rfl⟩)
    | (go_at_call 37; refine (WR.out _).mono ?_; rintro e w2 ⟨rfl, rfl⟩)
    | (go_at_call 19; refine (TimeR_is l _ true (by omega) (by symm; simp; omega)).mono ?_; rintro e w2 ⟨rfl, rfl⟩))
  exact bodyPost_ret (v := .tuple #[V 0 0 E0, .int .i64 8]) (by simp [results, Tryz.results21, go_sem]) rfl ⟨rfl, by go_grown⟩
set_option maxRecDepth 100000 in
set_option maxHeartbeats 2000000 in
theorem fwx_row (h0 : 0 ≤ b) (h1 : b < 18446744073709551616) (hk : 10 ≤ kv ∧ kv ≤ 13) :
    Calls Tryz.prog 21 #[.int .u8 19, V kv b E0] w fun e w' => e = .returned (.tuple #[V 0 0 E0, .int .i64 8]) ∧ Below w.heap.size w w' := by
  have hk2 : 0 ≤ kv ∧ kv < 256 := by omega
  go_enter Tryz.func21, Tryz.ntmps21
  go_wp2_with (first
    | (go_at_call 43; refine (SignedR_is kv _ false hk2 (by symm; simp; omega)).mono ?_; rintro e w2 ⟨rfl, rfl⟩)
    | (go_at_call 37; refine (WidthR_is 19 _ (by omega)).mono ?_; rintro e w2 ⟨rfl, rfl⟩)
    | (go_at_call 19; refine (TimeR_is 19 _ false (by omega) (by decide)).mono ?_; rintro e w2 ⟨rfl, rfl⟩)
    | (go_at_call 45; refine (RowR_is kv _ true hk2 (by symm; simp; omega)).mono ?_; rintro e w2 ⟨rfl, rfl⟩))
  exact bodyPost_ret (v := .tuple #[V 0 0 E0, .int .i64 8]) (by simp [results, Tryz.results21, go_sem]) rfl ⟨rfl, by go_grown⟩
set_option maxRecDepth 100000 in
set_option maxHeartbeats 2000000 in
theorem fwx_t14 (h0 : 9223372036854775808 ≤ b) (h1 : b < 18446744073709551616) :
    Calls Tryz.prog 21 #[.int .u8 14, V 5 b E0] w fun e w' => e = .returned (RV (mayW 14 b) 14 b 7) ∧ Below w.heap.size w w' := by
  have wb : wrap64 b = b - 18446744073709551616 := by unfold wrap64; omega
  have ng : IntKind.u64.wrap (-b) = 18446744073709551616 - b := by rw [IntKind.wrap_u64]; omega
  obtain ⟨k', b', g, eq, hg⟩ := rv_form (mayW 14 b) 14 b
  have MD : Hid (∀ w, Calls Tryz.prog 42 #[.int .u8 14, .int .u64 b, .int .i64 7] w fun e w' => e = .returned (.tuple #[V k' b' E0, .int .i64 g]) ∧ Below w.heap.size w w') := fun w => by
    have := made_of 14 b 7 w (by omega) (by omega) (by omega)
    rwa [eq] at this
  rw [eq]
  clear eq hg
  have WR : Hid (∀ w, Calls Tryz.prog 37 #[.int .u8 14] w fun e w' => e = .returned (.int .i64 0) ∧ w' = w) := fun w => by
    have := WidthR_is 14 w (by omega)
    rwa [show widN 14 = 0 by unfold widN; rw [if_neg (by omega), if_neg (by omega), if_neg (by omega), if_neg (by omega)]] at this
  go_enter Tryz.func21, Tryz.ntmps21
  go_wp2_with (first
    | (go_at_call 43; refine (SignedR_is 5 _ true (by omega) (by decide)).mono ?_; rintro e w2 ⟨rfl, rfl⟩)
    | (go_at_call 37; refine (WR.out _).mono ?_; rintro e w2 ⟨rfl, rfl⟩)
    | (go_at_call 19; refine (TimeR_is 14 _ true (by omega) (by first | decide | (symm; simp; omega))).mono ?_; rintro e w2 ⟨rfl, rfl⟩)
    | (go_at_call 42; refine (MD.out _).mono ?_; rintro e w1 ⟨rfl, hb⟩; obtain ⟨z0, z1, q0, q1, q2, q3, q4, q5, q6, HB⟩ := step_box hb; clear hb))
  exact bodyPost_ret (v := .tuple #[V k' b' E0, .int .i64 g]) (by simp [results, Tryz.results21, go_sem, q3, q4, q5]) rfl ⟨rfl, ((HB.setCell (by simp) _).setCell (by simp) _).setCell (by simp) _⟩
set_option maxRecDepth 100000 in
set_option maxHeartbeats 2000000 in
theorem fwx_tneg (h0 : 9223372036854775808 ≤ b) (h1 : b < 18446744073709551616) (d : 15 ≤ l ∧ l ≤ 17) :
    Calls Tryz.prog 21 #[.int .u8 l, V 5 b E0] w fun e w' => e = .returned (.tuple #[V 0 0 E0, .int .i64 7]) ∧ Below w.heap.size w w' := by
  have wb : wrap64 b = b - 18446744073709551616 := by unfold wrap64; omega
  have ng : IntKind.u64.wrap (-b) = 18446744073709551616 - b := by rw [IntKind.wrap_u64]; omega
  have k1 : (l == 1) = false := by simp; omega
  have k18 : (l == 18) = false := by simp; omega
  have k19 : (l == 19) = false := by simp; omega
  have k14 : (l == 14) = false := by simp; omega
  have WR : Hid (∀ w, Calls Tryz.prog 37 #[.int .u8 l] w fun e w' => e = .returned (.int .i64 0) ∧ w' = w) := fun w => by
    have := WidthR_is l w (by omega)
    rwa [show widN l = 0 by unfold widN; rw [if_neg (by omega), if_neg (by omega), if_neg (by omega), if_neg (by omega)]] at this
  go_enter Tryz.func21, Tryz.ntmps21
  go_wp2_with (first
    | (go_at_call 43; refine (SignedR_is 5 _ true (by omega) (by decide)).mono ?_; rintro e w2 ⟨rfl, rfl⟩)
    | (go_at_call 37; refine (WR.out _).mono ?_; rintro e w2 ⟨rfl, rfl⟩)
    | (go_at_call 19; refine (TimeR_is l _ true (by omega) (by first | decide | (symm; simp; omega))).mono ?_; rintro e w2 ⟨rfl, rfl⟩))
  exact bodyPost_ret (v := .tuple #[V 0 0 E0, .int .i64 7]) (by simp [results, Tryz.results21, go_sem]) rfl ⟨rfl, by go_grown⟩
set_option maxRecDepth 100000 in
set_option maxHeartbeats 2000000 in
theorem fwx_tpos (h0 : 0 ≤ b) (h1 : b < 9223372036854775808) (d : 14 ≤ l ∧ l ≤ 17) :
    Calls Tryz.prog 21 #[.int .u8 l, V 5 b E0] w fun e w' => e = .returned (RV (mayW l b) l b 7) ∧ Below w.heap.size w w' := by
  have wb : wrap64 b = b := by unfold wrap64; omega
  have k1 : (l == 1) = false := by simp; omega
  have k18 : (l == 18) = false := by simp; omega
  have k19 : (l == 19) = false := by simp; omega
  obtain ⟨k', b', g, eq, hg⟩ := rv_form (mayW l b) l b
  have MD : Hid (∀ w, Calls Tryz.prog 42 #[.int .u8 l, .int .u64 b, .int .i64 7] w fun e w' => e = .returned (.tuple #[V k' b' E0, .int .i64 g]) ∧ Below w.heap.size w w') := fun w => by
    have := made_of l b 7 w (by omega) (by omega) (by omega)
    rwa [eq] at this
  rw [eq]
  clear eq hg
  have WR : Hid (∀ w, Calls Tryz.prog 37 #[.int .u8 l] w fun e w' => e = .returned (.int .i64 0) ∧ w' = w) := fun w => by
    have := WidthR_is l w (by omega)
    rwa [show widN l = 0 by unfold widN; rw [if_neg (by omega), if_neg (by omega), if_neg (by omega), if_neg (by omega)]] at this
  go_enter Tryz.func21, Tryz.ntmps21
  go_wp2_with (first
    | (go_at_call 43; refine (SignedR_is 5 _ true (by omega) (by decide)).mono ?_; rintro e w2 ⟨rfl, rfl⟩)
    | (go_at_call 37; refine (WR.out _).mono ?_; rintro e w2 ⟨rfl, rfl⟩)
    | (go_at_call 19; refine (TimeR_is l _ true (by omega) (by first | decide | (symm; simp; omega))).mono ?_; rintro e w2 ⟨rfl, rfl⟩)
    | (go_at_call 42; refine (MD.out _).mono ?_; rintro e w1 ⟨rfl, hb⟩; obtain ⟨z0, z1, q0, q1, q2, q3, q4, q5, q6, HB⟩ := step_box hb; clear hb))
  exact bodyPost_ret (v := .tuple #[V k' b' E0, .int .i64 g]) (by simp [results, Tryz.results21, go_sem, q3, q4, q5]) rfl ⟨rfl, ((HB.setCell (by simp) _).setCell (by simp) _).setCell (by simp) _⟩
end
end Go.Proofs.YtlaamkfpdompjaaGreatDoor
namespace Go.Proofs.YtlaamkfpdompjaaGreatDoor
set_option linter.unusedVariables false
open Go.RowKit
theorem itoa_num (n : Int) : (⟨(Lib.itoa n).toArray⟩ : ByteArray) = numS n := by
  unfold Lib.itoa numS decS
  split
  · apply ByteArray.ext; rw [ByteArray.data_append]; simp
  · rw [show n.toNat = n.natAbs by omega]
section
variable (l k kv b : Int) (w : World)
set_option maxRecDepth 100000 in
set_option maxHeartbeats 2000000 in
theorem PrintR_is (hP : Pow w) (h0 : 0 ≤ b) (h1 : b < 18446744073709551616) (hk : 2 ≤ k ∧ k ≤ 9) (m : may3 k b E0 = true) :
    Calls Tryz.prog 47 #[V k b E0] w fun e w' => e = .returned (.string (numS (num k b))) ∧ Below w.heap.size w w' := by
  have M : Hid (∀ w, Calls Tryz.prog 15 #[V k b E0] w fun e w' => e = .returned (.bool true) ∧ Below w.heap.size w w') := fun w => by
    have := MayR_of k b E0 w h0 h1 (by omega) (Nat.zero_le _)
    rwa [m] at this
  clear m
  have f1 : (k == 1) = false := by simp; omega
  have f19 : (k == 19) = false := by simp; omega
  have f18 : (k == 18) = false := by simp; omega
  have HP : Hid (Pow w) := hP
  clear hP
  go_enter Tryz.func47, Tryz.ntmps47
  go_wp2_with fail
  refine (M.out _).mono ?_
  rintro e w1 ⟨rfl, hb⟩
  have B : Hid (Below w.heap.size w w1) := ((Below.refl _ _).alloc (Nat.le_refl _) _).trans (hb.mono (by simp))
  have A0 : Hid _ := (Lies.new w k b E0 _).next hb
  have P1 : Hid (Pow w1) := pow_below HP.out B.out
  obtain ⟨l0, c00, c01, c02⟩ := A0.out
  clear hb
  by_cases u : 6 ≤ k
  · have F : Hid (∀ w, Pow w → Calls Tryz.prog 62 #[.int .u64 b, .int .i64 10] w fun e w' => e = .returned (.string (decS b.toNat)) ∧ Below w.heap.size w w') := fun w h => by
      have := FormatUint_of b.toNat (by omega) w h
      rwa [show ((b.toNat : Nat) : Int) = b by omega] at this
    have en : numS (num k b) = decS b.toNat := by
      rw [num_u (by omega)]
      unfold numS
      rw [if_neg (by omega), show b.natAbs = b.toNat by omega]
    have EN : Hid (numS (num k b) = decS b.toNat) := en
    clear en
    generalize decS b.toNat = t at *
    go_wp2_with (first
      | (go_at_call 45; refine (RowR_is k _ false (by omega) (by symm; simp; omega)).mono ?_; rintro e w2 ⟨rfl, rfl⟩)
      | (go_at_call 60; refine (UnsignedR_is k _ true (by omega) (by symm; simp; omega)).mono ?_; rintro e w2 ⟨rfl, rfl⟩)
      | (go_at_call 62; refine (F.out _ P1.out).mono ?_; rintro e w4 ⟨rfl, hb4⟩))
    go_ret
    exact ⟨by rw [EN.out]; rfl, B.out.trans (hb4.mono B.out.size)⟩
  · have I : Hid (∀ w, Pow w → Calls Tryz.prog 63 #[.int .i64 (wrap64 b)] w fun e w' => e = .returned (.string ⟨(Lib.itoa (wrap64 b)).toArray⟩) ∧ Below w.heap.size w w') := fun w h => by
      refine (Tryz.strconv_Itoa (wrap64 b) (by unfold wrap64; omega) (by unfold wrap64; omega) w h).mono ?_
      rintro e w' ⟨rfl, k, os, rfl⟩
      exact ⟨rfl, grow_below _ _ _⟩
    have en : numS (num k b) = ⟨(Lib.itoa (wrap64 b)).toArray⟩ := by rw [num_s (by omega), itoa_num]
    have EN : Hid (numS (num k b) = ⟨(Lib.itoa (wrap64 b)).toArray⟩) := en
    clear en
    generalize (⟨(Lib.itoa (wrap64 b)).toArray⟩ : ByteArray) = t at *
    go_wp2_with (first
      | (go_at_call 45; refine (RowR_is k _ false (by omega) (by symm; simp; omega)).mono ?_; rintro e w2 ⟨rfl, rfl⟩)
      | (go_at_call 60; refine (UnsignedR_is k _ false (by omega) (by symm; simp; omega)).mono ?_; rintro e w2 ⟨rfl, rfl⟩)
      | (go_at_call 63; refine (I.out _ P1.out).mono ?_; rintro e w4 ⟨rfl, hb4⟩))
    go_ret
    exact ⟨by rw [EN.out]; rfl, B.out.trans (hb4.mono B.out.size)⟩
set_option maxRecDepth 100000 in
set_option maxHeartbeats 2000000 in
theorem PrintR_1 (s : ByteArray) (M : Hid (∀ w, Calls Tryz.prog 15 #[V 1 b s] w fun e w' => e = .returned (.bool true) ∧ Below w.heap.size w w')) : Calls Tryz.prog 47 #[V 1 b s] w fun e w' => e = .returned (.string (tfS b)) ∧ Below w.heap.size w w' := by
  unfold tfS
  by_cases b1 : b = 1
  · subst b1
    rw [if_pos rfl]
    go_enter Tryz.func47, Tryz.ntmps47
    go_wp2_with fail
    refine (M.out _).mono ?_
    rintro e w1 ⟨rfl, hb⟩
    have B : Hid (Below w.heap.size w w1) := ((Below.refl _ _).alloc (Nat.le_refl _) _).trans (hb.mono (by simp))
    obtain ⟨l0, c00, c01, c02⟩ := (Lies.new w 1 1 s _).next hb
    clear hb
    go_wp2
    go_ret
    exact ⟨rfl, B.out⟩
  · rw [if_neg b1]
    have f1 : (b == 1) = false := by simpa using b1
    go_enter Tryz.func47, Tryz.ntmps47
    go_wp2_with fail
    refine (M.out _).mono ?_
    rintro e w1 ⟨rfl, hb⟩
    have B : Hid (Below w.heap.size w w1) := ((Below.refl _ _).alloc (Nat.le_refl _) _).trans (hb.mono (by simp))
    obtain ⟨l0, c00, c01, c02⟩ := (Lies.new w 1 b s _).next hb
    clear hb
    go_wp2
    go_ret
    exact ⟨rfl, B.out⟩

set_option maxRecDepth 100000 in
set_option maxHeartbeats 1000000 in
theorem ftR_1 (s : ByteArray) : Calls Tryz.prog 18 #[.int .u8 1, .string s] w fun e w' => e = .returned (ftB s) ∧ Below w.heap.size w w' := by
  unfold ftB
  cases c : (s.toList == [84, 82, 85, 69])
  · cases c2 : (s.toList == [70, 65, 76, 83, 69])
    · go_enter Tryz.func18, Tryz.ntmps18
      go_wp2
      exact bodyPost_ret (v := .tuple #[V 0 0 E0, .int .i64 7]) (by simp [results, Tryz.results18, go_sem]) rfl ⟨rfl, by go_grown⟩
    · go_enter Tryz.func18, Tryz.ntmps18
      go_wp2_with (go_at_call 36; refine (BoolR_of _ _).mono ?_; rintro e w1 ⟨rfl, hb⟩; obtain ⟨y0, p0, p1, p2, p6, PB⟩ := boxD hb; clear hb)
      exact bodyPost_ret (v := .tuple #[V 1 (tb false) E0, .int .i64 0]) (by simp [results, Tryz.results18, go_sem, p0, p1, p2]) rfl ⟨rfl, ((PB.setCell (by simp) _).setCell (by simp) _).setCell (by simp) _⟩
  · go_enter Tryz.func18, Tryz.ntmps18
    go_wp2_with (go_at_call 36; refine (BoolR_of _ _).mono ?_; rintro e w1 ⟨rfl, hb⟩; obtain ⟨y0, p0, p1, p2, p6, PB⟩ := boxD hb; clear hb)
    exact bodyPost_ret (v := .tuple #[V 1 (tb true) E0, .int .i64 0]) (by simp [results, Tryz.results18, go_sem, p0, p1, p2]) rfl ⟨rfl, ((PB.setCell (by simp) _).setCell (by simp) _).setCell (by simp) _⟩
set_option maxRecDepth 100000 in
set_option maxHeartbeats 1000000 in
theorem ftR_8 (s : ByteArray) (hk : 0 ≤ k ∧ k < 256) (d : 10 ≤ k) : Calls Tryz.prog 18 #[.int .u8 k, .string s] w fun e w' => e = .returned (.tuple #[V 0 0 E0, .int .i64 8]) ∧ Below w.heap.size w w' := by
  have k1 : (k == 1) = false := by simp; omega
  go_enter Tryz.func18, Tryz.ntmps18
  go_wp2_with (go_at_call 40; refine (IntegerR_is k _ false hk (by symm; simp; omega)).mono ?_; rintro e w1 ⟨rfl, rfl⟩)
  exact bodyPost_ret (v := .tuple #[V 0 0 E0, .int .i64 8]) (by simp [results, Tryz.results18, go_sem]) rfl ⟨rfl, by go_grown⟩
theorem ftR_x (s : ByteArray) (hk : 1 ≤ k ∧ k < 256) (hs : s.size ≤ maxLen) : Calls Tryz.prog 18 #[.int .u8 k, .string s] w fun e w' => e = .returned (ftX k s) ∧ Below w.heap.size w w' := by
  unfold ftX
  by_cases a : k = 1
  · subst a
    rw [if_pos rfl]
    exact ftR_1 w s
  · rw [if_neg a]
    by_cases c : 2 ≤ k ∧ k ≤ 9
    · rw [if_pos c]
      exact fromTextR k s w c hs
    · rw [if_neg c]
      exact ftR_8 k w s (by omega) (by omega)
set_option maxRecDepth 100000 in
set_option maxHeartbeats 1000000 in
theorem fmR_5 (s : ByteArray) (h0 : 0 ≤ b) (h1 : b < 18446744073709551616) : Calls Tryz.prog 20 #[.int .u8 5, V kv b s] w fun e w' => e = .returned (RV (mayW 5 b) 5 b 7) ∧ Below w.heap.size w w' := by
  obtain ⟨k', b', g, eq, hg⟩ := rv_form (mayW 5 b) 5 b
  have MD : Hid (∀ w, Calls Tryz.prog 42 #[.int .u8 5, .int .u64 b, .int .i64 7] w fun e w' => e = .returned (.tuple #[V k' b' E0, .int .i64 g]) ∧ Below w.heap.size w w') := fun w => by
    have := made_of 5 b 7 w (by omega) (by omega) (by omega)
    rwa [eq] at this
  rw [eq]
  clear eq hg
  go_enter Tryz.func20, Tryz.ntmps20
  go_wp2_with (go_at_call 42; refine (MD.out _).mono ?_; rintro e w1 ⟨rfl, hb⟩; obtain ⟨z0, z1, q0, q1, q2, q3, q4, q5, q6, HB⟩ := step_box hb; clear hb)
  exact bodyPost_ret (v := .tuple #[V k' b' E0, .int .i64 g]) (by simp [results, Tryz.results20, go_sem, q3, q4, q5]) rfl ⟨rfl, ((HB.setCell (by simp) _).setCell (by simp) _).setCell (by simp) _⟩
set_option maxRecDepth 100000 in
set_option maxHeartbeats 1000000 in
theorem fmR_d (s : ByteArray) (c : Int) (hc : l = 15 ∧ c = b - b % 86400000000000 ∨ l = 16 ∧ c = b % 86400000000000) (h0 : 0 ≤ b) (h1 : b < 7258118400000000000) : Calls Tryz.prog 20 #[.int .u8 l, V 17 b s] w fun e w' => e = .returned (.tuple #[V l c E0, .int .i64 0]) ∧ Below w.heap.size w w' := by
  have wb : wrap64 b = b := by unfold wrap64; omega
  have my : mayW l c = true := by
    rcases hc with ⟨rfl, rfl⟩ | ⟨rfl, rfl⟩ <;> simp [mayW] <;> omega
  have MD : Hid (∀ w, Calls Tryz.prog 42 #[.int .u8 l, .int .u64 c, .int .i64 7] w fun e w' => e = .returned (.tuple #[V l c E0, .int .i64 0]) ∧ Below w.heap.size w w') := fun w => by
    have := made_of l c 7 w (by omega) (by omega) (by omega)
    rw [my] at this
    exact this
  clear my
  rcases hc with ⟨rfl, rfl⟩ | ⟨rfl, rfl⟩
  all_goals
    go_enter Tryz.func20, Tryz.ntmps20
    go_wp2_with (go_at_call 42; refine (MD.out _).mono ?_; rintro e w1 ⟨rfl, hb⟩; obtain ⟨z0, z1, q0, q1, q2, q3, q4, q5, q6, HB⟩ := step_box hb; clear hb)
    exact bodyPost_ret (v := .tuple #[V _ _ E0, .int .i64 0]) (by simp [results, Tryz.results20, go_sem, q3, q4, q5]) rfl ⟨rfl, ((HB.setCell (by simp) _).setCell (by simp) _).setCell (by simp) _⟩
set_option maxRecDepth 100000 in
set_option maxHeartbeats 1000000 in
theorem fmR_8 (s : ByteArray) (d : ¬ l = 5) (d2 : ¬ (l = 15 ∧ kv = 17)) (d3 : ¬ (l = 16 ∧ kv = 17)) : Calls Tryz.prog 20 #[.int .u8 l, V kv b s] w fun e w' => e = .returned (.tuple #[V 0 0 E0, .int .i64 8]) ∧ Below w.heap.size w w' := by
  have k5 : (l == 5) = false := by simpa using d
  obtain ⟨a, ea⟩ : ∃ a, (l == 15) = a := ⟨_, rfl⟩
  obtain ⟨c, ec⟩ : ∃ c, (l == 16) = c := ⟨_, rfl⟩
  obtain ⟨v, ev⟩ : ∃ v, (kv == 17) = v := ⟨_, rfl⟩
  have x1 : a = true → v = false := fun q => by
    subst q
    cases v
    · rfl
    · exact absurd ⟨by simpa using ea, by simpa using ev⟩ d2
  have x2 : c = true → v = false := fun q => by
    subst q
    cases v
    · rfl
    · exact absurd ⟨by simpa using ec, by simpa using ev⟩ d3
  clear d d2 d3
  cases a <;> cases c <;> cases v
  all_goals first | (exfalso; exact absurd (x1 rfl) (by decide)) | (exfalso; exact absurd (x2 rfl) (by decide)) | skip
  all_goals
    clear x1 x2
    go_enter Tryz.func20, Tryz.ntmps20
    go_wp2
    exact bodyPost_ret (v := .tuple #[V 0 0 E0, .int .i64 8]) (by simp [results, Tryz.results20, go_sem]) rfl ⟨rfl, by go_grown⟩
end
end Go.Proofs.YtlaamkfpdompjaaGreatDoor
namespace Go.Proofs.YtlaamkfpdompjaaGreatDoor
set_option linter.unusedVariables false
open Go.RowKit
section
variable (k kv b : Int) (s : ByteArray) (w : World)
theorem num_pp {kv b : Int} (h0 : 0 ≤ b) (h1 : b < 18446744073709551616) (hv : 1 ≤ kv ∧ kv ≤ 13) : (2 ≤ kv ∧ kv ≤ 5 ∧ 9223372036854775808 ≤ b ∧ num kv b = b - 18446744073709551616) ∨ (2 ≤ kv ∧ kv ≤ 5 ∧ b < 9223372036854775808 ∧ num kv b = b) ∨ ((kv = 1 ∨ 6 ≤ kv ∧ kv ≤ 13) ∧ num kv b = b) := by
  by_cases c : 2 ≤ kv ∧ kv ≤ 5
  · by_cases g : 9223372036854775808 ≤ b
    · exact Or.inl ⟨c.1, c.2, g, by rw [num_s (by omega)]; unfold wrap64; omega⟩
    · exact Or.inr (Or.inl ⟨c.1, c.2, by omega, by rw [num_s (by omega)]; unfold wrap64; omega⟩)
  · exact Or.inr (Or.inr ⟨by omega, by rw [num_u (by omega)]⟩)
/-- LINT to a time. -/
theorem t14_sz (h0 : 9223372036854775808 ≤ b) (h1 : b < 18446744073709551616) : RV (mayW 14 b) 14 b 7 = szV 14 (b - 18446744073709551616) := by
  have e : (b - 18446744073709551616) % 18446744073709551616 = b := by omega
  have f : fitOk 14 (b - 18446744073709551616) = true := by
    unfold fitOk
    rw [e, num_s (by omega)]
    have : may3 14 b E0 = true := by simp [may3, mayW]
    rw [this]
    have : wrap64 b = b - 18446744073709551616 := by unfold wrap64; omega
    rw [this]
    simp
  unfold szV
  rw [f, if_pos rfl, e]
  have : mayW 14 b = true := by simp [mayW]
  rw [this]
  rfl
theorem tneg_sz (d : 15 ≤ k ∧ k ≤ 17) (h0 : 9223372036854775808 ≤ b) (h1 : b < 18446744073709551616) : szV k (b - 18446744073709551616) = .tuple #[V 0 0 E0, .int .i64 7] :=
  szV_no k _ (fit_no k _ (by rw [num_u (by omega)]; omega))
theorem tpos_sz (d : 14 ≤ k ∧ k ≤ 17) (h0 : 0 ≤ b) (h1 : b < 9223372036854775808) : RV (mayW k b) k b 7 = szV k b := by
  have e : b % 18446744073709551616 = b := by omega
  have n : num k b = b := by
    by_cases c : 2 ≤ k ∧ k ≤ 5 ∨ k = 14
    · rw [num_s c]; unfold wrap64; omega
    · rw [num_u c]
  have f : fitOk k b = mayW k b := by
    unfold fitOk
    rw [e, n]
    have : may3 k b E0 = mayW k b := by
      rcases (by omega : k = 14 ∨ k = 15 ∨ k = 16 ∨ k = 17) with rfl | rfl | rfl | rfl <;> simp [may3]
    rw [this]
    simp
  unfold szV
  rw [f, e]
  cases mayW k b <;> rfl
theorem fm5_sz (h0 : 0 ≤ b) (h1 : b < 18446744073709551616) (d : 14 ≤ kv ∧ kv ≤ 17) (m : mayW kv b = true) : RV (mayW 5 b) 5 b 7 = szV 5 (num kv b) := by
  have my : mayW 5 b = true := by simp [mayW]
  have key : num 5 b = num kv b := by
    rw [num_s (by omega)]
    by_cases c : kv = 14
    · rw [num_s (by omega)]
    · rw [num_u (by omega)]
      have : b < 7258118400000000000 := by
        rcases (by omega : kv = 15 ∨ kv = 16 ∨ kv = 17) with rfl | rfl | rfl <;> simp [mayW] at m <;> omega
      unfold wrap64
      omega
  have e : num kv b % 18446744073709551616 = b := by
    rw [← key, num_s (by omega)]
    unfold wrap64
    omega
  have f : fitOk 5 (num kv b) = true := by
    unfold fitOk
    rw [e, key]
    have : may3 5 b E0 = true := by simp [may3, mayW]
    rw [this]
    simp
  unfold szV
  rw [f, if_pos rfl, e, my]
  rfl
theorem fwR_x (h0 : 0 ≤ b) (h1 : b < 18446744073709551616) (hk : 1 ≤ k ∧ k ≤ 19) (hv : 1 ≤ kv ∧ kv ≤ 13) (m : may3 kv b E0 = true) (hP : Pow w) : Calls Tryz.prog 21 #[.int .u8 k, V kv b E0] w fun e w' => e = .returned (fpX k kv b) ∧ Below w.heap.size w w' := by
  have M : ∀ w, Calls Tryz.prog 15 #[V kv b E0] w fun e w' => e = .returned (.bool true) ∧ Below w.heap.size w w' := fun w => by
    have := MayR_of kv b E0 w h0 h1 (by omega) (Nat.zero_le _)
    rwa [m] at this
  have NP := num_pp (kv := kv) (b := b) h0 h1 hv
  unfold fpX
  by_cases a1 : k = 1
  · subst a1
    rw [if_pos rfl]
    rcases NP with ⟨c1, c2, g, e⟩ | ⟨c1, c2, g, e⟩ | ⟨c, e⟩
    · exact fwx_one_neg kv b w g h1 ⟨c1, c2⟩
    · exact fwx_one_sp kv b w h0 g ⟨c1, c2⟩
    · exact fwx_one_us kv b w h0 h1 c
  rw [if_neg a1]
  by_cases a2 : 2 ≤ k ∧ k ≤ 13 ∨ 14 ≤ k ∧ k ≤ 17 ∧ kv = 5
  · rw [if_pos a2]
    by_cases d : 2 ≤ k ∧ k ≤ 13
    · rcases NP with ⟨c1, c2, g, e⟩ | ⟨c1, c2, g, e⟩ | ⟨c, e⟩
      · rw [e]; exact fwx_two_neg k kv b w g h1 ⟨c1, c2⟩ d
      · rw [e]; exact fwx_two_sp k kv b w h0 g ⟨c1, c2⟩ d
      · rw [e]; exact fwx_two_us k kv b w h0 h1 c d
    · obtain ⟨d1, d2, rfl⟩ : 14 ≤ k ∧ k ≤ 17 ∧ kv = 5 := by omega
      rcases NP with ⟨c1, c2, g, e⟩ | ⟨c1, c2, g, e⟩ | ⟨c, e⟩
      · rw [e]
        by_cases k14 : k = 14
        · subst k14
          rw [← t14_sz b g h1]
          exact fwx_t14 b w g h1
        · rw [tneg_sz k b (by omega) g h1]
          exact fwx_tneg k b w g h1 (by omega)
      · rw [e, ← tpos_sz k b ⟨d1, d2⟩ h0 g]
        exact fwx_tpos k b w h0 g ⟨d1, d2⟩
      · omega
  rw [if_neg a2]
  by_cases a3 : k = 18
  · subst a3
    rw [if_pos rfl]
    rcases NP with ⟨c1, c2, g, e⟩ | ⟨c1, c2, g, e⟩ | ⟨c, e⟩
    · rw [e]; exact fwx_real_neg kv b w g h1 ⟨c1, c2⟩
    · rw [e]; exact fwx_real_sp kv b w h0 g ⟨c1, c2⟩
    · rw [e]; exact fwx_real_us kv b w h0 h1 c
  rw [if_neg a3]
  by_cases a4 : k = 19 ∧ kv ≤ 9
  · rw [if_pos a4]
    obtain ⟨rfl, g9⟩ := a4
    have bd := num_bd kv b h0 h1
    have ht : (if kv = 1 then tfS b else numS (num kv b)).size ≤ 21 := by
      split
      · unfold tfS; split <;> decide
      · exact numS_size _ (by omega) (by omega)
    have PR : Hid (∀ w, Pow w → Calls Tryz.prog 47 #[V kv b E0] w fun e w' => e = .returned (.string (if kv = 1 then tfS b else numS (num kv b))) ∧ Below w.heap.size w w') := fun w hp => by
      by_cases v1 : kv = 1
      · subst v1
        rw [if_pos rfl]
        exact PrintR_1 b w E0 M
      · rw [if_neg v1]
        exact PrintR_is kv b w hp h0 h1 (by omega) m
    rcases NP with ⟨c1, c2, g, e⟩ | ⟨c1, c2, g, e⟩ | ⟨c, e⟩
    · exact fwx_text_neg kv b w g h1 ⟨c1, c2⟩ g9 _ ht hP PR
    · exact fwx_text_sp kv b w h0 g ⟨c1, c2⟩ g9 _ ht hP PR
    · exact fwx_text_us kv b w h0 h1 c g9 _ ht hP PR
  · rw [if_neg a4]
    by_cases k19 : k = 19
    · subst k19
      exact fwx_row kv b w h0 h1 (by omega)
    · have k5 : (kv == 5) = false := by simp; omega
      rcases NP with ⟨c1, c2, g, e⟩ | ⟨c1, c2, g, e⟩ | ⟨c, e⟩
      · exact fwx_tx_neg k kv b w g h1 ⟨c1, c2⟩ (by omega) k5
      · exact fwx_tx_sp k kv b w h0 g ⟨c1, c2⟩ (by omega) k5
      · exact fwx_tx_us k kv b w h0 h1 c (by omega) k5
theorem fmR_x (h0 : 0 ≤ b) (h1 : b < 18446744073709551616) (d : 14 ≤ kv ∧ kv ≤ 17) (m : may3 kv b s = true) : Calls Tryz.prog 20 #[.int .u8 k, V kv b s] w fun e w' => e = .returned (fmX k kv b) ∧ Below w.heap.size w w' := by
  have mw := (may_w m (by omega)).1
  unfold fmX
  by_cases d1 : k = 5
  · subst d1
    rw [if_pos rfl, ← fm5_sz kv b h0 h1 d mw]
    exact fmR_5 kv b w s h0 h1
  · rw [if_neg d1]
    by_cases d2 : k = 15 ∧ kv = 17
    · rw [if_pos d2]
      obtain ⟨rfl, rfl⟩ := d2
      exact fmR_d 15 b w s _ (Or.inl ⟨rfl, rfl⟩) h0 (by simp [mayW] at mw; omega)
    · rw [if_neg d2]
      by_cases d3 : k = 16 ∧ kv = 17
      · rw [if_pos d3]
        obtain ⟨rfl, rfl⟩ := d3
        exact fmR_d 16 b w s _ (Or.inr ⟨rfl, rfl⟩) h0 (by simp [mayW] at mw; omega)
      · rw [if_neg d3]
        exact fmR_8 k kv b w s d1 d2 d3
theorem frR_x (h0 : 0 ≤ b) (h1 : b < 18446744073709551616) (hk : 1 ≤ k ∧ k < 256) (m : may3 18 b s = true) : Calls Tryz.prog 17 #[.int .u8 k, V 18 b s] w fun e w' => e = .returned (frX k b.toNat) ∧ Below w.heap.size w w' := by
  obtain ⟨x, rfl⟩ := Int.eq_ofNat_of_zero_le h0
  have mx : (x : Int) = 9221120237041090561 ∨ fnan x = false := by
    simp [may3, mayW] at m
    rcases m.2 with q | q
    · left; omega
    · right; simpa using q
  show Calls _ _ _ _ fun e w' => e = .returned (frX k x) ∧ _
  by_cases a : k = 1
  · subst a
    exact frR_1 s w x (by omega) mx
  · unfold frX
    rw [if_neg a]
    by_cases c : 2 ≤ k ∧ k ≤ 13
    · rw [if_pos c]
      exact frR_n k s w x (by omega) c
    · rw [if_neg c]
      exact frR_8 k x s w (by omega)
set_option maxRecDepth 100000 in
set_option maxHeartbeats 1000000 in
theorem ConvertD_bad (h0 : 0 ≤ b) (h1 : b < 18446744073709551616) (hk : 0 ≤ k ∧ k < 256) (hv : 0 ≤ kv ∧ kv < 256) (hs : s.size ≤ maxLen) (d : may3 kv b s = false ∨ ¬ (1 ≤ k ∧ k ≤ 19)) : Calls Tryz.prog 5 #[.int .u8 k, V kv b s] w fun e w' => e = .returned (.tuple #[V 0 0 E0, .int .i64 8]) ∧ Below w.heap.size w w' := by
  have M : Hid (∀ w, Calls Tryz.prog 15 #[V kv b s] w fun e w' => e = .returned (.bool (may3 kv b s)) ∧ Below w.heap.size w w') := fun w => MayR_of kv b s w h0 h1 hv hs
  cases m : may3 kv b s
  · rw [m] at M
    clear d m
    go_enter Tryz.func5, Tryz.ntmps5
    go_wp2_with (go_at_call 15; refine (M.out _).mono ?_; rintro e w1 ⟨rfl, hb⟩; obtain ⟨z0, z1, q0, q1, q2, q3, q4, q5, q6, HB⟩ := step_box hb; clear hb)
    exact bodyPost_ret (v := .tuple #[V 0 0 E0, .int .i64 8]) (by simp [results, Tryz.results5, go_sem, q3, q4, q5]) rfl ⟨rfl, by first | exact HB | exact ((HB.setCell (by simp) _).setCell (by simp) _).setCell (by simp) _⟩
  · have dk : ¬ (1 ≤ k ∧ k ≤ 19) := by
      rcases d with d | d
      · rw [m] at d
        cases d
      · exact d
    rw [m] at M
    clear d m
    have DK : Hid _ := dk
    clear dk
    go_enter Tryz.func5, Tryz.ntmps5
    go_wp2_with (first
      | (go_at_call 15; refine (M.out _).mono ?_; rintro e w1 ⟨rfl, hb⟩; obtain ⟨z0, z1, q0, q1, q2, q3, q4, q5, q6, HB⟩ := step_box hb; clear hb)
      | (go_at_call 16; refine (elemR_is k _ false hk (by symm; rw [decide_eq_false_iff_not]; exact DK.out)).mono ?_; rintro e w2 ⟨rfl, rfl⟩))
    exact bodyPost_ret (v := .tuple #[V 0 0 E0, .int .i64 8]) (by simp [results, Tryz.results5, go_sem, q3, q4, q5]) rfl ⟨rfl, by first | exact HB | exact ((HB.setCell (by simp) _).setCell (by simp) _).setCell (by simp) _⟩
set_option maxRecDepth 100000 in
set_option maxHeartbeats 1000000 in
theorem ConvertD_same (h0 : 0 ≤ b) (h1 : b < 18446744073709551616) (hk : 1 ≤ k ∧ k ≤ 19) (hs : s.size ≤ maxLen) (m : may3 k b s = true) : Calls Tryz.prog 5 #[.int .u8 k, V k b s] w fun e w' => e = .returned (.tuple #[V k b s, .int .i64 0]) ∧ Below w.heap.size w w' := by
  have M : Hid (∀ w, Calls Tryz.prog 15 #[V k b s] w fun e w' => e = .returned (.bool true) ∧ Below w.heap.size w w') := fun w => by
    have := MayR_of k b s w h0 h1 (by omega) hs
    rwa [m] at this
  clear m
  go_enter Tryz.func5, Tryz.ntmps5
  go_wp2_with (first
    | (go_at_call 15; refine (M.out _).mono ?_; rintro e w1 ⟨rfl, hb⟩; obtain ⟨z0, z1, q0, q1, q2, q3, q4, q5, q6, HB⟩ := step_box hb; clear hb)
    | (go_at_call 16; refine (elemR_is k _ true (by omega) (by symm; simpa using hk)).mono ?_; rintro e w2 ⟨rfl, rfl⟩))
  exact bodyPost_ret (v := .tuple #[V k b s, .int .i64 0]) (by simp [results, Tryz.results5, go_sem, q3, q4, q5]) rfl ⟨rfl, ((HB.setCell (by simp) _).setCell (by simp) _).setCell (by simp) _⟩
set_option maxRecDepth 100000 in
set_option maxHeartbeats 1000000 in
theorem ConvertD_real (h0 : 0 ≤ b) (h1 : b < 18446744073709551616) (hk : 1 ≤ k ∧ k ≤ 19) (hs : s.size ≤ maxLen) (m : may3 18 b s = true) (ne : ¬ 18 = k) (k' b' f : Int) (s' : ByteArray)
    (F : Hid (∀ w, Calls Tryz.prog 17 #[.int .u8 k, V 18 b s] w fun e w' => e = .returned (.tuple #[V k' b' s', .int .i64 f]) ∧ Below w.heap.size w w')) : Calls Tryz.prog 5 #[.int .u8 k, V 18 b s] w fun e w' => e = .returned (.tuple #[V k' b' s', .int .i64 f]) ∧ Below w.heap.size w w' := by
  have M : Hid (∀ w, Calls Tryz.prog 15 #[V 18 b s] w fun e w' => e = .returned (.bool true) ∧ Below w.heap.size w w') := fun w => by
    have := MayR_of 18 b s w h0 h1 (by omega) hs
    rwa [m] at this
  have g : ((18 : Int) == k) = false := by simpa using ne
  clear m
  go_enter Tryz.func5, Tryz.ntmps5
  go_wp2_with (first
    | (go_at_call 15; refine (M.out _).mono ?_; rintro e w1 ⟨rfl, hb⟩; obtain ⟨z0, z1, q0, q1, q2, q3, q4, q5, q6, HB⟩ := step_box hb; clear hb)
    | (go_at_call 16; refine (elemR_is k _ true (by omega) (by symm; simpa using hk)).mono ?_; rintro e w2 ⟨rfl, rfl⟩)
    | (go_at_call 17; refine (F.out _).mono ?_; rintro e w4 ⟨rfl, hb4⟩; obtain ⟨u0, u1, l0, l1, l2⟩ := step2 hb4 z0 z1))
  exact bodyPost_ret (v := .tuple #[V k' b' s', .int .i64 f]) (by simp [results, Tryz.results5, go_sem, l1, q3, q4, q5]) rfl ⟨rfl, (((HB.trans (hb4.mono (Nat.le_of_lt z0))).setCell (by simp) _).setCell (by simp) _).setCell (by simp) _⟩
set_option maxRecDepth 100000 in
set_option maxHeartbeats 1000000 in
theorem ConvertD_str (h0 : 0 ≤ b) (h1 : b < 18446744073709551616) (hk : 1 ≤ k ∧ k ≤ 19) (hs : s.size ≤ maxLen) (m : may3 19 b s = true) (ne : ¬ 19 = k) (k' b' f : Int) (s' : ByteArray)
    (F : Hid (∀ w, Calls Tryz.prog 18 #[.int .u8 k, .string s] w fun e w' => e = .returned (.tuple #[V k' b' s', .int .i64 f]) ∧ Below w.heap.size w w')) : Calls Tryz.prog 5 #[.int .u8 k, V 19 b s] w fun e w' => e = .returned (.tuple #[V k' b' s', .int .i64 f]) ∧ Below w.heap.size w w' := by
  have M : Hid (∀ w, Calls Tryz.prog 15 #[V 19 b s] w fun e w' => e = .returned (.bool true) ∧ Below w.heap.size w w') := fun w => by
    have := MayR_of 19 b s w h0 h1 (by omega) hs
    rwa [m] at this
  have g : ((19 : Int) == k) = false := by simpa using ne
  clear m
  go_enter Tryz.func5, Tryz.ntmps5
  go_wp2_with (first
    | (go_at_call 15; refine (M.out _).mono ?_; rintro e w1 ⟨rfl, hb⟩; obtain ⟨z0, z1, q0, q1, q2, q3, q4, q5, q6, HB⟩ := step_box hb; clear hb)
    | (go_at_call 16; refine (elemR_is k _ true (by omega) (by symm; simpa using hk)).mono ?_; rintro e w2 ⟨rfl, rfl⟩)
    | (go_at_call 18; refine (F.out _).mono ?_; rintro e w4 ⟨rfl, hb4⟩; obtain ⟨u0, u1, l0, l1, l2⟩ := step2 hb4 z0 z1))
  exact bodyPost_ret (v := .tuple #[V k' b' s', .int .i64 f]) (by simp [results, Tryz.results5, go_sem, l1, q3, q4, q5]) rfl ⟨rfl, (((HB.trans (hb4.mono (Nat.le_of_lt z0))).setCell (by simp) _).setCell (by simp) _).setCell (by simp) _⟩
set_option maxRecDepth 100000 in
set_option maxHeartbeats 1000000 in
theorem ConvertD_time (h0 : 0 ≤ b) (h1 : b < 18446744073709551616) (hk : 1 ≤ k ∧ k ≤ 19) (hs : s.size ≤ maxLen) (m : may3 kv b s = true) (ne : ¬ kv = k) (et : 14 ≤ kv ∧ kv ≤ 17) (k' b' f : Int) (s' : ByteArray)
    (F : Hid (∀ w, Calls Tryz.prog 20 #[.int .u8 k, V kv b s] w fun e w' => e = .returned (.tuple #[V k' b' s', .int .i64 f]) ∧ Below w.heap.size w w')) : Calls Tryz.prog 5 #[.int .u8 k, V kv b s] w fun e w' => e = .returned (.tuple #[V k' b' s', .int .i64 f]) ∧ Below w.heap.size w w' := by
  have M : Hid (∀ w, Calls Tryz.prog 15 #[V kv b s] w fun e w' => e = .returned (.bool true) ∧ Below w.heap.size w w') := fun w => by
    have := MayR_of kv b s w h0 h1 (by omega) hs
    rwa [m] at this
  have g : ((kv : Int) == k) = false := by simpa using ne
  have f18 : (kv == 18) = false := by simp; omega
  have f19 : (kv == 19) = false := by simp; omega
  clear m
  go_enter Tryz.func5, Tryz.ntmps5
  go_wp2_with (first
    | (go_at_call 15; refine (M.out _).mono ?_; rintro e w1 ⟨rfl, hb⟩; obtain ⟨z0, z1, q0, q1, q2, q3, q4, q5, q6, HB⟩ := step_box hb; clear hb)
    | (go_at_call 16; refine (elemR_is k _ true (by omega) (by symm; simpa using hk)).mono ?_; rintro e w2 ⟨rfl, rfl⟩)
    | (go_at_call 19; refine (TimeR_is kv _ true (by omega) (by symm; simpa using et)).mono ?_; rintro e w2 ⟨rfl, rfl⟩)
    | (go_at_call 20; refine (F.out _).mono ?_; rintro e w4 ⟨rfl, hb4⟩; obtain ⟨u0, u1, l0, l1, l2⟩ := step2 hb4 z0 z1))
  exact bodyPost_ret (v := .tuple #[V k' b' s', .int .i64 f]) (by simp [results, Tryz.results5, go_sem, l1, q3, q4, q5]) rfl ⟨rfl, (((HB.trans (hb4.mono (Nat.le_of_lt z0))).setCell (by simp) _).setCell (by simp) _).setCell (by simp) _⟩
set_option maxRecDepth 100000 in
set_option maxHeartbeats 1000000 in
theorem ConvertD_plain (h0 : 0 ≤ b) (h1 : b < 18446744073709551616) (hk : 1 ≤ k ∧ k ≤ 19) (hs : s.size ≤ maxLen) (m : may3 kv b s = true) (ne : ¬ kv = k) (hv : 1 ≤ kv ∧ kv ≤ 13) (hP : Pow w) (k' b' f : Int) (s' : ByteArray)
    (F : Hid (∀ w, Pow w → Calls Tryz.prog 21 #[.int .u8 k, V kv b s] w fun e w' => e = .returned (.tuple #[V k' b' s', .int .i64 f]) ∧ Below w.heap.size w w')) : Calls Tryz.prog 5 #[.int .u8 k, V kv b s] w fun e w' => e = .returned (.tuple #[V k' b' s', .int .i64 f]) ∧ Below w.heap.size w w' := by
  have M : Hid (∀ w, Calls Tryz.prog 15 #[V kv b s] w fun e w' => e = .returned (.bool true) ∧ Below w.heap.size w w') := fun w => by
    have := MayR_of kv b s w h0 h1 (by omega) hs
    rwa [m] at this
  have g : ((kv : Int) == k) = false := by simpa using ne
  have f18 : (kv == 18) = false := by simp; omega
  have f19 : (kv == 19) = false := by simp; omega
  have HP : Hid (Pow w) := hP
  clear hP
  clear m
  go_enter Tryz.func5, Tryz.ntmps5
  go_wp2_with (first
    | (go_at_call 15; refine (M.out _).mono ?_; rintro e w1 ⟨rfl, hb⟩; obtain ⟨z0, z1, q0, q1, q2, q3, q4, q5, q6, HB⟩ := step_box hb; clear hb)
    | (go_at_call 16; refine (elemR_is k _ true (by omega) (by symm; simpa using hk)).mono ?_; rintro e w2 ⟨rfl, rfl⟩)
    | (go_at_call 19; refine (TimeR_is kv _ false (by omega) (by symm; simp; omega)).mono ?_; rintro e w2 ⟨rfl, rfl⟩)
    | (go_at_call 21; refine (F.out _ (pow_below HP.out HB)).mono ?_; rintro e w4 ⟨rfl, hb4⟩; obtain ⟨u0, u1, l0, l1, l2⟩ := step2 hb4 z0 z1))
  exact bodyPost_ret (v := .tuple #[V k' b' s', .int .i64 f]) (by simp [results, Tryz.results5, go_sem, l1, q3, q4, q5]) rfl ⟨rfl, (((HB.trans (hb4.mono (Nat.le_of_lt z0))).setCell (by simp) _).setCell (by simp) _).setCell (by simp) _⟩
theorem ConvertD (h0 : 0 ≤ b) (h1 : b < 18446744073709551616) (hk : 0 ≤ k ∧ k < 256) (hv : 0 ≤ kv ∧ kv < 256) (hs : s.size ≤ maxLen) (hP : Pow w) : Calls Tryz.prog 5 #[.int .u8 k, V kv b s] w fun e w' => e = .returned (cvX k kv b s) ∧ Below w.heap.size w w' := by
  unfold cvX
  by_cases a : may3 kv b s = true ∧ 1 ≤ k ∧ k ≤ 19
  · rw [if_pos a]
    obtain ⟨m, hk'⟩ := a
    have kb := may_kv m
    by_cases e : kv = k
    · rw [if_pos e]
      subst e
      exact ConvertD_same kv b s w h0 h1 hk' hs m
    rw [if_neg e]
    by_cases e18 : kv = 18
    · rw [if_pos e18]
      subst e18
      have F0 : Hid _ := fun w => frR_x k b s w h0 h1 (by omega) m
      obtain ⟨k', b', s', f, q⟩ := ans_fr k b.toNat
      rw [q] at F0 ⊢
      exact ConvertD_real k b s w h0 h1 hk' hs m e k' b' f s' F0
    rw [if_neg e18]
    by_cases e19 : kv = 19
    · rw [if_pos e19]
      subst e19
      have F0 : Hid _ := fun w => ftR_x k w s (by omega) hs
      obtain ⟨k', b', s', f, q⟩ := ans_ft k s
      rw [q] at F0 ⊢
      exact ConvertD_str k b s w h0 h1 hk' hs m e k' b' f s' F0
    rw [if_neg e19]
    by_cases et : 14 ≤ kv ∧ kv ≤ 17
    · rw [if_pos et]
      have F0 : Hid _ := fun w => fmR_x k kv b s w h0 h1 et m
      obtain ⟨k', b', s', f, q⟩ := ans_fm k kv b
      rw [q] at F0 ⊢
      exact ConvertD_time k kv b s w h0 h1 hk' hs m e et k' b' f s' F0
    rw [if_neg et]
    have es : s = E0 := text_nil m e19
    subst es
    have F0 : Hid _ := fun w hp => fwR_x k kv b w h0 h1 hk' (by omega) m hp
    obtain ⟨k', b', s', f, q⟩ := ans_fp k kv b
    rw [q] at F0 ⊢
    exact ConvertD_plain k kv b E0 w h0 h1 hk' hs m e (by omega) hP k' b' f s' F0
  · rw [if_neg a]
    refine ConvertD_bad k kv b s w h0 h1 hk hv hs ?_
    cases m : may3 kv b s
    · exact Or.inl rfl
    · exact Or.inr fun q => a ⟨m, q⟩
end
end Go.Proofs.YtlaamkfpdompjaaGreatDoor
namespace Go.Proofs.YtlaamkfpdompjaaGreatDoor.LawValueConverts
set_option linter.unusedVariables false
open Go.ChangeShapes Go.WideShapes Go.ChangeAt Go.RowKit
theorem own : ownKnob Tryz.prog.godebug = none := by kernel_rfl
theorem laidOut : laidOutB Tryz.prog = true := by kernel_rfl
theorem gPow : Tryz.prog.globalNamed "internal/strconv.uint64pow10" = some 1 := by kernel_rfl
theorem tPow : (Tryz.prog.globals[1]?).map (·.type) = some 111 := by kernel_rfl
theorem of_laid {W : World} (h : laidMetH Tryz.prog Rows.valueConvertsRow.laid W) : Pow W := by
  rw [MakeChecks.laidMetH_plain _ _ _ (by kernel_rfl)] at h
  have h2 : laidMet Tryz.prog [("internal/strconv.uint64pow10", Rows.laid_internal_strconv_uint64pow10)] W := h.filter fun x => x.1 == "internal/strconv.uint64pow10"
  exact Lib.tabIs_of_head (k := .u64) (zs := Lib.pow10Tab) (rest := []) gPow tPow Tryz.underlying111 Tryz.underlying23 (by kernel_rfl) (by kernel_rfl) h2
set_option maxHeartbeats 1000000 in
theorem same_of (k b : Int) (s : ByteArray) (f : Int) (w : World) :
    Calls Tryz.prog 6 #[V k b s, .int .i64 f, V k b s, .int .i64 f] w fun e w' => e = .returned (.bool true) ∧ Below w.heap.size w w' := by
  go_enter Tryz.func6, Tryz.ntmps6
  go_wp2
  go_ret
  exact ⟨rfl, ((Below.refl _ _).alloc (Nat.le_refl _) _).alloc (by simp) _⟩
theorem lt_next {w w1 : World} {x : Obj} {h : Nat} (hb : Below (w.alloc x).heap.size (w.alloc x) w1) (z : h < w.heap.size + 1) : h < w1.heap.size ∧ h < w1.heap.size + 1 ∧ h < w1.heap.size + 1 + 1 ∧ h < w1.heap.size + 1 + 1 + 1 := by have := hb.size; simp at this; omega
theorem step_two {w w1 : World} {x y : Obj} (hb : Below ((w.alloc x).alloc y).heap.size ((w.alloc x).alloc y) w1) : Below w.heap.size w w1 ∧ w.heap.size < w1.heap.size ∧ w.heap.size < w1.heap.size + 1 ∧ w.heap.size + 1 < w1.heap.size ∧ w.heap.size + 1 < w1.heap.size + 1 := by
  have := hb.size
  simp at this
  exact ⟨(((Below.refl _ _).alloc (Nat.le_refl _) _).alloc (by simp) _).trans (hb.mono (by simp; omega)), by omega, by omega, by omega, by omega⟩
set_option maxHeartbeats 1000000 in
theorem walk (k kv b : Int) (s : ByteArray) (w : World) (hk : 0 ≤ k ∧ k < 256) (hv : 0 ≤ kv ∧ kv < 256) (h0 : 0 ≤ b) (h1 : b < 18446744073709551616) (hs : s.size ≤ maxLen) (hP : Pow w) :
    Calls Tryz.prog 3 #[.int .u8 k, V kv b s] w fun e w' => e = .returned (.bool true) ∧ Below w.heap.size w w' := by
  have t1 := fun w => ConvertC k kv b s w h0 h1 hk hv hs
  have t2 := fun w => ConvertD k kv b s w h0 h1 hk hv hs
  obtain ⟨K, B, S, f, e⟩ : Ans4 (cvX k kv b s) := by
    unfold cvX
    repeat' split
    · exact ans_mk _ _ _ _
    · exact ans_fr _ _
    · exact ans_ft _ _
    · exact ans_fm _ _ _
    · exact ans_fp _ _ _
    · exact ans_mk _ _ _ _
  rw [e] at t1 t2
  have T1 : Hid _ := t1
  have T2 : Hid _ := t2
  have HP : Hid (Pow w) := hP
  clear t1 t2 e hP
  go_enter Tryz.func3, Tryz.ntmps3
  go_wp2_with fail
  refine (T1.out _ (pow_below HP.out (by go_grown))).mono ?_
  rintro e w1 ⟨rfl, hb⟩
  have B1 : Below w.heap.size w w1 := ((Below.refl _ _).alloc (Nat.le_refl _) _).trans (hb.mono (by simp))
  have P1 : Hid (Pow w1) := pow_below HP.out B1
  obtain ⟨hc, hf⟩ := bcell hb
  have z1 := hb.size
  simp only [World.size_alloc] at z1
  have y0 : w.heap.size < w1.heap.size := by omega
  have y1 : w.heap.size < w1.heap.size + 1 := by omega
  go_wp2_with fail
  refine (T2.out _ (pow_below P1.out (by go_grown))).mono ?_
  rintro e w2 ⟨rfl, hb2⟩
  obtain ⟨hc2, hf2⟩ := bcell hb2
  obtain ⟨x0, x1, x2, x3⟩ := lt_next hb2 y1
  obtain ⟨v0, v1, v2, v3⟩ := lt_next hb2 (Nat.lt_succ_self _)
  go_wp2_with fail
  refine (same_of _ _ _ _ _).mono ?_
  rintro e w3 ⟨rfl, hb3⟩
  go_wp2
  go_ret
  refine ⟨rfl, ?_⟩
  have B2 : Below w.heap.size w w2 := (B1.alloc (by omega) _).trans (hb2.mono (by simp; omega))
  exact (B2.alloc (by omega) _).trans (hb3.mono (by simp; omega))
set_option maxRecDepth 100000 in
theorem lifted (os : Os) (started : os.Started) (H : Type) (enc : TypeId × Value → H) :
    ReturnsInHanded {} Tryz.checked os 3 .any (fun w args => (Rows.valueConvertsSpec.pre enc Tryz.prog Tryz.f3 [] false w args ∧ laidMetH Tryz.prog Rows.valueConvertsRow.laid w) ∧ sizedMet enc Tryz.prog Tryz.f3 (OpenSpec.ofChange Rows.valueConvertsSpec) false w args)
      (Rows.valueConvertsSpec.post enc Tryz.prog Tryz.f3 false true false false) := by
  refine returnsInHanded_of_change_and (C := Tryz.checked) (X := fun w _ => laidMetH Tryz.prog Rows.valueConvertsRow.laid w) (fun _ _ _ hh h => h.of_heap hh) own started (by kernel_rfl) Tryz.func3
    (ChangeSpec.witness_shaped (enc := enc) (C := Tryz.checked) (os := os) (X := fun w _ => laidMetH Tryz.prog Rows.valueConvertsRow.laid w) false (World.laidAll Tryz.prog os Rows.valueConvertsRow.laid) #[.int .u8 0, V 0 0 ⟨#[]⟩] 8 (World.laidAll_os _ _ _)
      (World.shaped_of_ZipB (by kernel_rfl) (by kernel_rfl)) (by kernel_rfl) (by kernel_rfl) (by kernel_rfl)
      (by rw [MakeChecks.laidMetH_plain _ _ _ (by kernel_rfl)]; exact laidMet_laidAll _ (by kernel_rfl) (by kernel_rfl))) ?_
  intro W base args ds gs before hval0 hW _ _ hL _
  have hval : ∀ (j : Nat) t v, Tryz.f3.params[j]? = some t → args[j]? = some v → Value.okWide Tryz.prog W .any base t v := hval0
  have hW' := hW
  obtain ⟨p, q, hA0, hV, rfl, hfz, hnd⟩ := hW
  have hA : DataW.TrodAll enc Tryz.prog W 0 (fun _ => true) true Tryz.f3.params.toList args.toList ds p := hA0
  rw [Tryz.params3] at hA hval
  obtain ⟨v0, vs0, d0, ds0, p0, q0, hargs, rfl, rfl, h0, r0⟩ := trodAll_cons hA
  obtain ⟨v1, vs1, d1, ds1, p1, q1, rfl, rfl, rfl, h1, r1⟩ := trodAll_cons r0
  obtain ⟨rfl, rfl, rfl⟩ := trodAll_nil r1
  obtain rfl : args = #[v0, v1] := by cases args; simp_all
  obtain ⟨rfl, rfl⟩ := trodVars_none hV
  obtain ⟨k, rfl, rfl, rfl, wk⟩ := open_int Tryz.underlying22 (hval 0 22 v0 rfl rfl) h0
  have bk := bounds_u8 wk
  have k1 := h1
  have lt1 : ∀ x ∈ p1, x.block < W.heap.size := by obtain ⟨m, hm⟩ := k1; exact DataW.trod_lt m _ _ _ hm
  obtain ⟨ka, ba, sa, rfl, hka, ba0, ba1, hsa⟩ := open_V (hval 1 25 v1 rfl rfl) h1
  have hP := of_laid hL
  clear hA0 hval0 hL
  refine (walk k ka ba sa W (by omega) hka ba0 ba1 hsa hP).mono fun e W' ⟨he, bel⟩ => ?_
  subst he
  exact ⟨_, rfl, _, _, _, [], _, [], hW', trodAll_mk1 (shut_bool Tryz.underlying4 _), (trodAll_cons_mk (shut_int Tryz.underlying22 wk) (trodAll_cons_mk (Below.trod laidOut (by kernel_rfl) (of_decide_eq_true (by kernel_rfl)) k1 bel lt1) trodAll_mk0)), rfl, bel.frame _, fun h => by cases h⟩
theorem row_holds : Rows.ValueConvertsSaid :=
  OpenClaim.holds_of_wide 3 Tryz.f3 rfl rfl rfl rfl rfl rfl rfl ⟨rfl, rfl, rfl, rfl, rfl⟩ rfl rfl rfl rfl rfl (by kernel_rfl) Tryz.func3 (by kernel_rfl)
    (of_decide_eq_true (by kernel_rfl)) (by unfold Func.isWrapper; first | (rw [if_pos (by decide +kernel)]; kernel_rfl) | (rw [if_neg (by decide +kernel)]; exact ⟨rfl, rfl⟩))
    (fun os started H enc _ => lifted os started H enc)
end Go.Proofs.YtlaamkfpdompjaaGreatDoor.LawValueConverts
namespace Go.Proofs.YtlaamkfpdompjaaGreatDoor
/-- THE STATEMENT, ITS TABLES TIED TO THE TEXTS. -/
theorem valueConverts_proved : Rows.ValueConvertsCardSaid :=
  Claim7.holds_tied_plain_at .later [] [.data, .data, .data, .data, .pinned, .pinned] true (true, "e0d54cfb02dbeacaf1df95edad9b3a3e5b9dbe140f30e10a7de45e081db2fc61") false
    LawValueConverts.row_holds (fun _ h => by cases h) (by kernel_rfl) (fun _ h => by cases h) valueConverts_row_tie rfl ⟨rfl, rfl⟩ (by kernel_rfl) rfl
    (fun f fn hf hfn => by
      obtain rfl : f = 3 := Option.some.inj ((show Tryz.prog.funcNamed "relay/relaylaw01.ValueConverts" = some 3 by kernel_rfl).symm.trans hf) |>.symm
      obtain rfl : fn = Tryz.f3 := (Option.some.inj (Tryz.func3.symm.trans hfn)).symm
      exact ⟨by kernel_rfl, fun j t ht => by
        rw [Tryz.params3] at ht
        have hm : t ∈ [22, 25] := by simpa using Array.mem_of_getElem? ht
        have hall : ([22, 25].all fun u => !Tryz.prog.wantsStandIn u) = true := by kernel_rfl
        exact (show Tryz.prog.wantsStandIn t = false by simpa using List.all_eq_true.1 hall t hm)⟩)
    (by kernel_rfl)
end Go.Proofs.YtlaamkfpdompjaaGreatDoor
