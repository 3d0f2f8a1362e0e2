/- What the functions of texts give; no statement of the seat is proved here. -/
import Derived.Test.YtkanhbokdjppoaaGreatDoorStdB
import Derived.Test.YtkanhbokdjppoaaGreatDoorNumV
import Derived.Test.YtkanhbokdjppoaaGreatDoorTextV
namespace Go.Proofs.YtkanhbokdjppoaaGreatDoor
set_option linter.unusedVariables false
open Go.RowKit
set_option maxHeartbeats 1000000 in
theorem whole_of (c : Int) (t : ByteArray) (w : World) (h0 : 0 ≤ c) (h1 : c < 18446744073709551616) (hs : t.size ≤ maxLen) (m : may3 3 c t = true) :
    Calls Tryz.prog 112 #[V 3 c t] w fun e w' => e = .returned (.int .i64 (wrap64 c)) ∧ Below w.heap.size w w' := by
  have N : Hid _ := fun w => Number_ok 3 c t w h0 h1 hs m (.inr (.inl rfl))
  clear m
  go_enter Tryz.func112, Tryz.ntmps112
  go_wp2_with (first | (go_at_call 154; refine (N.out _).mono ?_; rintro e w1 ⟨rfl, hb⟩; have HB : Hid (Below w.heap.size w w1) := ((Below.refl _ _).alloc (Nat.le_refl _) _).trans (hb.mono (by simp)); clear hb))
  go_ret
  exact ⟨rfl, HB.out⟩
theorem whole_is (c : Int) (t : ByteArray) (n : Int) (w : World) (h0 : 0 ≤ c) (h1 : c < 18446744073709551616) (hs : t.size ≤ maxLen) (m : may3 3 c t = true) (e : wrap64 c = n) :
    Calls Tryz.prog 112 #[V 3 c t] w fun e w' => e = .returned (.int .i64 n) ∧ Below w.heap.size w w' := by subst e; exact whole_of c t w h0 h1 hs m
theorem Text_yes (s : ByteArray) (w : World) (h : s.size ≤ 254) : Calls Tryz.prog 123 #[.string s] w fun e w' => e = .returned (.tuple #[V 19 0 s, .int .i64 0]) ∧ Below w.heap.size w w' := by
  have := Text_of s w (by unfold maxLen; omega); unfold textR at this; rwa [if_pos h] at this
theorem Text_no (s : ByteArray) (w : World) (h : ¬ s.size ≤ 254) (hs : s.size ≤ maxLen) : Calls Tryz.prog 123 #[.string s] w fun e w' => e = .returned (.tuple #[V 0 0 E0, .int .i64 5]) ∧ Below w.heap.size w w' := by
  have := Text_of s w hs; unfold textR at this; rwa [if_neg h] at this
section
variable (g cap : Nat) (hw : Int) (k b l c : Int) (s t : ByteArray) (w : World)
set_option maxHeartbeats 2000000 in
theorem left_of (n : Nat) (ha : A2 w g ⟨k, b, s⟩ ⟨3, c, t⟩) (h0 : 0 ≤ c) (h1 : c < 18446744073709551616) (hs : t.size ≤ maxLen) (m : may3 3 c t = true) (hn : wrap64 c = n) (hl : n ≤ s.size) (hz : s.size ≤ 254) :
    Calls Tryz.prog 76 #[.int .i64 hw, .slice (some ⟨g, 0, none⟩) 2 cap] w fun e w' => e = .returned (.tuple #[V 19 0 (s.extract 0 n), .int .i64 0]) ∧ Below w.heap.size w w' := by
  have W_ : Hid (∀ w, Calls Tryz.prog 112 #[V 3 c t] w fun e w' => e = .returned (.int .i64 n) ∧ Below w.heap.size w w') := fun w => whole_is c t n w h0 h1 hs m hn
  clear m hn
  have hl' : (n : Int) ≤ s.size := by omega
  have sz : Hid ((s.extract 0 n).size ≤ 254) := by show (s.extract 0 n).size ≤ 254; simp; omega
  have zg : g < w.heap.size := block_lt_of_cell ha.c0
  have HA : Hid _ := ha
  clear ha
  go_enter Tryz.func76, Tryz.ntmps76
  go_wp2_with fail
  have gr : Hid (Below w.heap.size w (w.alloc (.cells #[.int .u8 0, .int .u64 0, .string ⟨#[]⟩] 38))) := (Below.refl _ _).alloc (Nat.le_refl _) _
  have rb : Hid (VB (w.alloc (.cells #[.int .u8 0, .int .u64 0, .string ⟨#[]⟩] 38)) w.heap.size 0 0 E0) := ⟨by simp, by simp, by simp, by simp, by simp, by simp⟩
  have AA := HA.out.below gr.out
  have zW : w.heap.size < (w.alloc (.cells #[.int .u8 0, .int .u64 0, .string ⟨#[]⟩] 38)).heap.size := by simp
  generalize (w.alloc (.cells #[.int .u8 0, .int .u64 0, .string ⟨#[]⟩] 38)) = W at *
  have d0 : ∀ x : Sub W, x.w.cell? ⟨g, 0, none⟩ = some _ := fun x => (x.h.cell (p := ⟨g, 0, none⟩) (Nat.lt_trans zg zW)).trans AA.c0
  have d1 : ∀ x : Sub W, x.w.cell? ⟨g, 1, none⟩ = some _ := fun x => (x.h.cell (p := ⟨g, 1, none⟩) (Nat.lt_trans zg zW)).trans AA.c1
  have d2 : ∀ x : Sub W, x.w.cell? ⟨g, 2, none⟩ = some _ := fun x => (x.h.cell (p := ⟨g, 2, none⟩) (Nat.lt_trans zg zW)).trans AA.c2
  have d3 : ∀ x : Sub W, x.w.cell? ⟨g, 3, none⟩ = some _ := fun x => (x.h.cell (p := ⟨g, 3, none⟩) (Nat.lt_trans zg zW)).trans AA.c3
  have d4 : ∀ x : Sub W, x.w.cell? ⟨g, 4, none⟩ = some _ := fun x => (x.h.cell (p := ⟨g, 4, none⟩) (Nat.lt_trans zg zW)).trans AA.c4
  have d5 : ∀ x : Sub W, x.w.cell? ⟨g, 5, none⟩ = some _ := fun x => (x.h.cell (p := ⟨g, 5, none⟩) (Nat.lt_trans zg zW)).trans AA.c5
  clear AA HA
  refine wp_region_sub2 (by kernel_rfl) (by kernel_rfl) ?_
  intro cx
  clear cx
  repeat (first | go_big_quiet_skip | (go_big_quiet_want; go_big_quiet_op; first | go_big_quiet_on | (refine ⟨_, fun _ => rfl, ?_⟩; go_big_quiet_on) | go_big_quiet_call (first | (go_at_call 112; exact calls_sub (W_.out _)))))
  refine wpQuiet_nil ?_
  rintro _ ⟨y, rfl⟩
  have Y : Hid (Below W.heap.size W y.w) := y.h
  have BY : Hid (Below w.heap.size w y.w) := gr.out.trans (y.h.mono (Nat.le_of_lt zW))
  have RB : Hid (VB y.w w.heap.size 0 0 E0) := rb.out.below y.h
  generalize y.w = w5 at *
  clear d0 d1 d2 d3 d4 d5
  go_wp2_with (first | (go_at_call 123; refine (Text_yes _ _ sz.out).mono ?_; rintro e w6 ⟨rfl, hb6⟩; have B6 : Hid (Below w.heap.size w w6) := BY.out.trans (hb6.mono BY.out.size); obtain ⟨r0, r1, r2, r3, r4, r5⟩ := RB.out.below hb6; clear hb6))
  exact bodyPost_ret (v := .tuple #[V 19 0 (s.extract 0 n), .int .i64 0]) (by simp [results, Tryz.results76, go_sem, r0, r1, r2]) rfl ⟨rfl, ((B6.out.setCell (by simp) _).setCell (by simp) _).setCell (by simp) _⟩
set_option maxHeartbeats 2000000 in
theorem right_of (n : Nat) (ha : A2 w g ⟨k, b, s⟩ ⟨3, c, t⟩) (h0 : 0 ≤ c) (h1 : c < 18446744073709551616) (hs : t.size ≤ maxLen) (m : may3 3 c t = true) (hn : wrap64 c = n) (hl : n ≤ s.size) (hz : s.size ≤ 254) :
    Calls Tryz.prog 77 #[.int .i64 hw, .slice (some ⟨g, 0, none⟩) 2 cap] w fun e w' => e = .returned (.tuple #[V 19 0 (s.extract (s.size - n) s.size), .int .i64 0]) ∧ Below w.heap.size w w' := by
  have W_ : Hid (∀ w, Calls Tryz.prog 112 #[V 3 c t] w fun e w' => e = .returned (.int .i64 n) ∧ Below w.heap.size w w') := fun w => whole_is c t n w h0 h1 hs m hn
  clear m hn
  have hl' : (n : Int) ≤ s.size := by omega
  have sz : Hid ((s.extract (s.size - n) s.size).size ≤ 254) := by show (s.extract (s.size - n) s.size).size ≤ 254; simp; omega
  have zg : g < w.heap.size := block_lt_of_cell ha.c0
  have HA : Hid _ := ha
  clear ha
  go_enter Tryz.func77, Tryz.ntmps77
  go_wp2_with fail
  have gr : Hid (Below w.heap.size w (w.alloc (.cells #[.int .u8 0, .int .u64 0, .string ⟨#[]⟩] 38))) := (Below.refl _ _).alloc (Nat.le_refl _) _
  have rb : Hid (VB (w.alloc (.cells #[.int .u8 0, .int .u64 0, .string ⟨#[]⟩] 38)) w.heap.size 0 0 E0) := ⟨by simp, by simp, by simp, by simp, by simp, by simp⟩
  have AA := HA.out.below gr.out
  have zW : w.heap.size < (w.alloc (.cells #[.int .u8 0, .int .u64 0, .string ⟨#[]⟩] 38)).heap.size := by simp
  generalize (w.alloc (.cells #[.int .u8 0, .int .u64 0, .string ⟨#[]⟩] 38)) = W at *
  have d0 : ∀ x : Sub W, x.w.cell? ⟨g, 0, none⟩ = some _ := fun x => (x.h.cell (p := ⟨g, 0, none⟩) (Nat.lt_trans zg zW)).trans AA.c0
  have d1 : ∀ x : Sub W, x.w.cell? ⟨g, 1, none⟩ = some _ := fun x => (x.h.cell (p := ⟨g, 1, none⟩) (Nat.lt_trans zg zW)).trans AA.c1
  have d2 : ∀ x : Sub W, x.w.cell? ⟨g, 2, none⟩ = some _ := fun x => (x.h.cell (p := ⟨g, 2, none⟩) (Nat.lt_trans zg zW)).trans AA.c2
  have d3 : ∀ x : Sub W, x.w.cell? ⟨g, 3, none⟩ = some _ := fun x => (x.h.cell (p := ⟨g, 3, none⟩) (Nat.lt_trans zg zW)).trans AA.c3
  have d4 : ∀ x : Sub W, x.w.cell? ⟨g, 4, none⟩ = some _ := fun x => (x.h.cell (p := ⟨g, 4, none⟩) (Nat.lt_trans zg zW)).trans AA.c4
  have d5 : ∀ x : Sub W, x.w.cell? ⟨g, 5, none⟩ = some _ := fun x => (x.h.cell (p := ⟨g, 5, none⟩) (Nat.lt_trans zg zW)).trans AA.c5
  clear AA HA
  refine wp_region_sub2 (by kernel_rfl) (by kernel_rfl) ?_
  intro cx
  clear cx
  repeat (first | go_big_quiet_skip | (go_big_quiet_want; go_big_quiet_op; first | go_big_quiet_on | (refine ⟨_, fun _ => rfl, ?_⟩; go_big_quiet_on) | go_big_quiet_call (first | (go_at_call 112; exact calls_sub (W_.out _)))))
  refine wpQuiet_nil ?_
  rintro _ ⟨y, rfl⟩
  have Y : Hid (Below W.heap.size W y.w) := y.h
  have BY : Hid (Below w.heap.size w y.w) := gr.out.trans (y.h.mono (Nat.le_of_lt zW))
  have RB : Hid (VB y.w w.heap.size 0 0 E0) := rb.out.below y.h
  generalize y.w = w5 at *
  clear d0 d1 d2 d3 d4 d5
  go_wp2_with (first | (go_at_call 123; refine (Text_yes _ _ sz.out).mono ?_; rintro e w6 ⟨rfl, hb6⟩; have B6 : Hid (Below w.heap.size w w6) := BY.out.trans (hb6.mono BY.out.size); obtain ⟨r0, r1, r2, r3, r4, r5⟩ := RB.out.below hb6; clear hb6))
  exact bodyPost_ret (v := .tuple #[V 19 0 (s.extract (s.size - n) s.size), .int .i64 0]) (by simp [results, Tryz.results77, go_sem, r0, r1, r2]) rfl ⟨rfl, ((B6.out.setCell (by simp) _).setCell (by simp) _).setCell (by simp) _⟩
end
end Go.Proofs.YtkanhbokdjppoaaGreatDoor
