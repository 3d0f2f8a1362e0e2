/- What the functions of texts give: DELETE and CONCAT; no statement of the seat is proved here. -/
import Derived.Test.YtkanhbokdjppoaaGreatDoorStdL
import Derived.Test.YtkanhbokdjppoaaGreatDoorBldA
import Derived.Test.YtkanhbokdjppoaaGreatDoorBs
namespace Go.Proofs.YtkanhbokdjppoaaGreatDoor
set_option linter.unusedVariables false
open Go.RowKit
section
variable (g cap : Nat) (hw : Int) (k b d c : Int) (s r t : ByteArray) (w : World)
set_option maxHeartbeats 2000000 in
theorem remove_of (n p : Nat) (ha : A3 w g ⟨k, b, s⟩ ⟨3, d, r⟩ ⟨3, c, t⟩) (hm0 : 0 ≤ d) (hm1 : d < 18446744073709551616) (hms : r.size ≤ maxLen) (mm : may3 3 d r = true) (hmn : wrap64 d = n) (h0 : 0 ≤ c) (h1 : c < 18446744073709551616) (hs : t.size ≤ maxLen) (m : may3 3 c t = true) (hp : wrap64 c = p) (hp1 : 1 ≤ p) (hl : p - 1 + n ≤ s.size) (hz : s.size ≤ 254) :
    Calls Tryz.prog 83 #[.int .i64 hw, .slice (some ⟨g, 0, none⟩) 3 cap] w fun e w' => e = .returned (.tuple #[V 19 0 (s.extract 0 (p - 1) ++ s.extract (p - 1 + n) s.size), .int .i64 0]) ∧ Below w.heap.size w w' := by
  have P : Hid (∀ w, Calls Tryz.prog 124 #[.string s, V 3 d r, V 3 c t] w fun e w' => e = .returned (.tuple #[.int .i64 ((p - 1 : Nat) : Int), .int .i64 ((p - 1 + n : Nat) : Int), .int .i64 0]) ∧ Below w.heap.size w w') := fun w => piece_of d c s r t w n p hm0 hm1 hms mm hmn h0 h1 hs m hp hp1 hl hz
  clear mm hmn m hp
  have ab : p - 1 ≤ p - 1 + n := by omega
  generalize p - 1 + n = B at *
  generalize p - 1 = A at *
  have hl' : (B : Int) ≤ s.size := by omega
  have hA' : (A : Int) ≤ s.size := by omega
  have nA : (0 : Int) ≤ A := by omega
  have nB : (0 : Int) ≤ B := by omega
  have za : Hid ((s.extract 0 A ++ s.extract B s.size).size ≤ 254) := by show (s.extract 0 A ++ s.extract B s.size).size ≤ 254; simp [ByteArray.size_append]; omega
  have k1 : ∀ w, (Op.stringOp .add (s.extract 0 A) (s.extract B s.size)).run Tryz.prog w = .ok (.string (s.extract 0 A ++ s.extract B s.size)) w := fun w => run_string_add_sum w _ _ (by simp; omega)
  have zg : g < w.heap.size := block_lt_of_cell ha.c0
  have HA : Hid _ := ha
  have c2 := ha.c2
  have n0 : ¬ g = w.heap.size := by omega
  clear ha
  go_enter Tryz.func83, Tryz.ntmps83
  go_wp2_with fail
  have gr : Hid (Below w.heap.size w (w.alloc (.cells #[.int .u8 0, .int .u64 0, .string ⟨#[]⟩] 38))) := (Below.refl _ _).alloc (Nat.le_refl _) _
  have rb : Hid (VB (w.alloc (.cells #[.int .u8 0, .int .u64 0, .string ⟨#[]⟩] 38)) w.heap.size 0 0 E0) := ⟨by simp, by simp, by simp, by simp, by simp, by simp⟩
  have AA := HA.out.below gr.out
  have zW : w.heap.size < (w.alloc (.cells #[.int .u8 0, .int .u64 0, .string ⟨#[]⟩] 38)).heap.size := by simp
  clear c2 n0
  generalize (w.alloc (.cells #[.int .u8 0, .int .u64 0, .string ⟨#[]⟩] 38)) = W at *
  have d0 : ∀ x : Sub W, x.w.cell? ⟨g, 0, none⟩ = some _ := fun x => (x.h.cell (p := ⟨g, 0, none⟩) (Nat.lt_trans zg zW)).trans AA.c0
  have d1 : ∀ x : Sub W, x.w.cell? ⟨g, 1, none⟩ = some _ := fun x => (x.h.cell (p := ⟨g, 1, none⟩) (Nat.lt_trans zg zW)).trans AA.c1
  have d2 : ∀ x : Sub W, x.w.cell? ⟨g, 2, none⟩ = some _ := fun x => (x.h.cell (p := ⟨g, 2, none⟩) (Nat.lt_trans zg zW)).trans AA.c2
  have d3 : ∀ x : Sub W, x.w.cell? ⟨g, 3, none⟩ = some _ := fun x => (x.h.cell (p := ⟨g, 3, none⟩) (Nat.lt_trans zg zW)).trans AA.c3
  have d4 : ∀ x : Sub W, x.w.cell? ⟨g, 4, none⟩ = some _ := fun x => (x.h.cell (p := ⟨g, 4, none⟩) (Nat.lt_trans zg zW)).trans AA.c4
  have d5 : ∀ x : Sub W, x.w.cell? ⟨g, 5, none⟩ = some _ := fun x => (x.h.cell (p := ⟨g, 5, none⟩) (Nat.lt_trans zg zW)).trans AA.c5
  have d6 : ∀ x : Sub W, x.w.cell? ⟨g, 6, none⟩ = some _ := fun x => (x.h.cell (p := ⟨g, 6, none⟩) (Nat.lt_trans zg zW)).trans AA.c6
  have d7 : ∀ x : Sub W, x.w.cell? ⟨g, 7, none⟩ = some _ := fun x => (x.h.cell (p := ⟨g, 7, none⟩) (Nat.lt_trans zg zW)).trans AA.c7
  have d8 : ∀ x : Sub W, x.w.cell? ⟨g, 8, none⟩ = some _ := fun x => (x.h.cell (p := ⟨g, 8, none⟩) (Nat.lt_trans zg zW)).trans AA.c8
  clear AA HA
  refine wp_region_sub2 (by kernel_rfl) (by kernel_rfl) ?_
  intro cx
  clear cx
  repeat (first | go_big_quiet_skip | (go_big_quiet_want; go_big_quiet_op; first | go_big_quiet_on | (refine ⟨_, fun _ => rfl, ?_⟩; go_big_quiet_on) | go_big_quiet_call (first | (go_at_call 124; exact calls_sub (P.out _)))))
  refine wpQuiet_nil ?_
  rintro _ ⟨y, rfl⟩
  have Y : Hid (Below W.heap.size W y.w) := y.h
  have BY : Hid (Below w.heap.size w y.w) := gr.out.trans (y.h.mono (Nat.le_of_lt zW))
  have RB : Hid (VB y.w w.heap.size 0 0 E0) := rb.out.below y.h
  generalize y.w = w5 at *
  clear d0 d1 d2 d3 d4 d5 d6 d7 d8
  go_wp2_with fail
  go_region_held3 (fun _ => True) (trivial) (first | (go_at_call 123; refine (Text_yes _ _ za.out).mono ?_; rintro e w6 ⟨rfl, hb6⟩; have B6 : Hid (Below w.heap.size w w6) := BY.out.drew.trans (hb6.mono BY.out.size); obtain ⟨r0, r1, r2, r3, r4, r5⟩ := (RB.out.below (Below.refl _ _).drew).below hb6; clear hb6))
  go_wp2
  exact bodyPost_ret (v := .tuple #[V 19 0 (s.extract 0 A ++ s.extract B s.size), .int .i64 0]) (by simp [results, Tryz.results83, go_sem, r0, r1, r2]) rfl ⟨rfl, ((B6.out.setCell (by simp) _).setCell (by simp) _).setCell (by simp) _⟩
end
end Go.Proofs.YtkanhbokdjppoaaGreatDoor
