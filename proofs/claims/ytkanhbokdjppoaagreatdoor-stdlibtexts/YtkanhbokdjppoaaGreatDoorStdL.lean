/- What the functions of texts give: INSERT and DELETE; no statement of the seat is proved here. -/
import Derived.Test.YtkanhbokdjppoaaGreatDoorStdJ
import Derived.Deep.RegionHeld3
namespace Go.Proofs.YtkanhbokdjppoaaGreatDoor
set_option linter.unusedVariables false
open Go.RowKit
/-- Three values in a row of their own. -/
structure A3 (w : World) (g : Nat) (u v x : Vl) : Prop where
  c0 : w.cell? ⟨g, 0, none⟩ = some (.int .u8 u.k)
  c1 : w.cell? ⟨g, 1, none⟩ = some (.int .u64 u.b)
  c2 : w.cell? ⟨g, 2, none⟩ = some (.string u.s)
  c3 : w.cell? ⟨g, 3, none⟩ = some (.int .u8 v.k)
  c4 : w.cell? ⟨g, 4, none⟩ = some (.int .u64 v.b)
  c5 : w.cell? ⟨g, 5, none⟩ = some (.string v.s)
  c6 : w.cell? ⟨g, 6, none⟩ = some (.int .u8 x.k)
  c7 : w.cell? ⟨g, 7, none⟩ = some (.int .u64 x.b)
  c8 : w.cell? ⟨g, 8, none⟩ = some (.string x.s)
theorem A3.below {w w' : World} {g : Nat} {u v x : Vl} (h : A3 w g u v x) (hb : Below w.heap.size w w') : A3 w' g u v x := by
  have z := block_lt_of_cell h.c0
  exact ⟨(hb.cell (p := ⟨g, 0, none⟩) z).trans h.c0, (hb.cell (p := ⟨g, 1, none⟩) z).trans h.c1, (hb.cell (p := ⟨g, 2, none⟩) z).trans h.c2, (hb.cell (p := ⟨g, 3, none⟩) z).trans h.c3, (hb.cell (p := ⟨g, 4, none⟩) z).trans h.c4, (hb.cell (p := ⟨g, 5, none⟩) z).trans h.c5, (hb.cell (p := ⟨g, 6, none⟩) z).trans h.c6, (hb.cell (p := ⟨g, 7, none⟩) z).trans h.c7, (hb.cell (p := ⟨g, 8, none⟩) z).trans h.c8⟩
theorem A3.vs {w : World} {g : Nat} {v : Nat → Vl} (h : VsAt w ⟨g, 0, none⟩ 3 v) : A3 w g (v 0) (v 1) (v 2) := by
  obtain ⟨a, b, c⟩ := h 0 (by decide)
  obtain ⟨d, e, f⟩ := h 1 (by decide)
  obtain ⟨i, j, k⟩ := h 2 (by decide)
  exact ⟨a, b, c, d, e, f, i, j, k⟩
section
variable (g cap : Nat) (hw : Int) (k b l d c : Int) (s r t : ByteArray) (w : World)
set_option maxHeartbeats 2000000 in
theorem insert_yes (n : Nat) (ha : A3 w g ⟨k, b, s⟩ ⟨l, d, r⟩ ⟨3, c, t⟩) (h0 : 0 ≤ c) (h1 : c < 18446744073709551616) (hs : t.size ≤ maxLen) (m : may3 3 c t = true) (hn : wrap64 c = n) (hl : n ≤ s.size) (hz : s.size ≤ 254) (hr : r.size ≤ 254) (hsum : s.size + r.size ≤ 254) :
    Calls Tryz.prog 82 #[.int .i64 hw, .slice (some ⟨g, 0, none⟩) 3 cap] w fun e w' => e = .returned (.tuple #[V 19 0 (s.extract 0 n ++ r ++ s.extract n s.size), .int .i64 0]) ∧ Below w.heap.size w w' := by
  have W_ : Hid (∀ w, Calls Tryz.prog 112 #[V 3 c t] w fun e w' => e = .returned (.int .i64 n) ∧ Below w.heap.size w w') := fun w => whole_is c t n w h0 h1 hs m hn
  clear m hn
  have hl' : (n : Int) ≤ s.size := by omega
  have za : Hid ((s.extract 0 n ++ r ++ s.extract n s.size).size = s.size + r.size) := by show (s.extract 0 n ++ r ++ s.extract n s.size).size = s.size + r.size; simp [ByteArray.size_append]; omega
  have k1 : ∀ w, (Op.stringOp .add (s.extract 0 n) r).run Tryz.prog w = .ok (.string (s.extract 0 n ++ r)) w := fun w => run_string_add_sum w _ _ (by simp; omega)
  have k2 : ∀ w, (Op.stringOp .add (s.extract 0 n ++ r) (s.extract n s.size)).run Tryz.prog w = .ok (.string (s.extract 0 n ++ r ++ s.extract n s.size)) w := fun w => run_string_add_sum w _ _ (by simp [ByteArray.size_append]; omega)
  have nn : (0 : Int) ≤ n := by omega
  have zg : g < w.heap.size := block_lt_of_cell ha.c0
  have HA : Hid _ := ha
  clear ha
  go_enter Tryz.func82, Tryz.ntmps82
  go_wp2_with fail
  have gr : Hid (Below w.heap.size w (w.alloc (.cells #[.int .u8 0, .int .u64 0, .string ⟨#[]⟩] 38))) := (Below.refl _ _).alloc (Nat.le_refl _) _
  have rb : Hid (VB (w.alloc (.cells #[.int .u8 0, .int .u64 0, .string ⟨#[]⟩] 38)) w.heap.size 0 0 E0) := ⟨by simp, by simp, by simp, by simp, by simp, by simp⟩
  have AA := HA.out.below gr.out
  have zW : w.heap.size < (w.alloc (.cells #[.int .u8 0, .int .u64 0, .string ⟨#[]⟩] 38)).heap.size := by simp
  generalize (w.alloc (.cells #[.int .u8 0, .int .u64 0, .string ⟨#[]⟩] 38)) = W at *
  have d0 : ∀ x : Sub W, x.w.cell? ⟨g, 0, none⟩ = some _ := fun x => (x.h.cell (p := ⟨g, 0, none⟩) (Nat.lt_trans zg zW)).trans AA.c0
  have d1 : ∀ x : Sub W, x.w.cell? ⟨g, 1, none⟩ = some _ := fun x => (x.h.cell (p := ⟨g, 1, none⟩) (Nat.lt_trans zg zW)).trans AA.c1
  have d2 : ∀ x : Sub W, x.w.cell? ⟨g, 2, none⟩ = some _ := fun x => (x.h.cell (p := ⟨g, 2, none⟩) (Nat.lt_trans zg zW)).trans AA.c2
  have d3 : ∀ x : Sub W, x.w.cell? ⟨g, 3, none⟩ = some _ := fun x => (x.h.cell (p := ⟨g, 3, none⟩) (Nat.lt_trans zg zW)).trans AA.c3
  have d4 : ∀ x : Sub W, x.w.cell? ⟨g, 4, none⟩ = some _ := fun x => (x.h.cell (p := ⟨g, 4, none⟩) (Nat.lt_trans zg zW)).trans AA.c4
  have d5 : ∀ x : Sub W, x.w.cell? ⟨g, 5, none⟩ = some _ := fun x => (x.h.cell (p := ⟨g, 5, none⟩) (Nat.lt_trans zg zW)).trans AA.c5
  have d6 : ∀ x : Sub W, x.w.cell? ⟨g, 6, none⟩ = some _ := fun x => (x.h.cell (p := ⟨g, 6, none⟩) (Nat.lt_trans zg zW)).trans AA.c6
  have d7 : ∀ x : Sub W, x.w.cell? ⟨g, 7, none⟩ = some _ := fun x => (x.h.cell (p := ⟨g, 7, none⟩) (Nat.lt_trans zg zW)).trans AA.c7
  have d8 : ∀ x : Sub W, x.w.cell? ⟨g, 8, none⟩ = some _ := fun x => (x.h.cell (p := ⟨g, 8, none⟩) (Nat.lt_trans zg zW)).trans AA.c8
  clear AA HA
  refine wp_region_sub2 (by kernel_rfl) (by kernel_rfl) ?_
  intro cx
  clear cx
  repeat (first | go_big_quiet_skip | (go_big_quiet_want; go_big_quiet_op; first | go_big_quiet_on | (refine ⟨_, fun _ => rfl, ?_⟩; go_big_quiet_on) | go_big_quiet_call (first | (go_at_call 112; exact calls_sub (W_.out _)))))
  refine wpQuiet_nil ?_
  rintro _ ⟨y, rfl⟩
  have Y : Hid (Below W.heap.size W y.w) := y.h
  have BY : Hid (Below w.heap.size w y.w) := gr.out.trans (y.h.mono (Nat.le_of_lt zW))
  have RB : Hid (VB y.w w.heap.size 0 0 E0) := rb.out.below y.h
  generalize y.w = w5 at *
  clear d0 d1 d2 d3 d4 d5 d6 d7 d8
  go_wp2_with fail
  go_region_held3 (fun _ => True) (trivial) (first | (go_at_call 123; refine (Text_yes _ _ (by rw [za.out]; exact hsum)).mono ?_; rintro e w6 ⟨rfl, hb6⟩; have B6 : Hid (Below w.heap.size w w6) := BY.out.drew.trans (hb6.mono BY.out.size); obtain ⟨r0, r1, r2, r3, r4, r5⟩ := (RB.out.below (Below.refl _ _).drew).below hb6; clear hb6))
  go_wp2
  exact bodyPost_ret (v := .tuple #[V 19 0 (s.extract 0 n ++ r ++ s.extract n s.size), .int .i64 0]) (by simp [results, Tryz.results82, go_sem, r0, r1, r2]) rfl ⟨rfl, ((B6.out.setCell (by simp) _).setCell (by simp) _).setCell (by simp) _⟩
set_option maxHeartbeats 2000000 in
theorem insert_no (n : Nat) (ha : A3 w g ⟨k, b, s⟩ ⟨l, d, r⟩ ⟨3, c, t⟩) (h0 : 0 ≤ c) (h1 : c < 18446744073709551616) (hs : t.size ≤ maxLen) (m : may3 3 c t = true) (hn : wrap64 c = n) (hl : n ≤ s.size) (hz : s.size ≤ 254) (hr : r.size ≤ 254) (hsum : ¬ s.size + r.size ≤ 254) :
    Calls Tryz.prog 82 #[.int .i64 hw, .slice (some ⟨g, 0, none⟩) 3 cap] w fun e w' => e = .returned (.tuple #[V 0 0 E0, .int .i64 5]) ∧ Below w.heap.size w w' := by
  have W_ : Hid (∀ w, Calls Tryz.prog 112 #[V 3 c t] w fun e w' => e = .returned (.int .i64 n) ∧ Below w.heap.size w w') := fun w => whole_is c t n w h0 h1 hs m hn
  clear m hn
  have hl' : (n : Int) ≤ s.size := by omega
  have za : Hid ((s.extract 0 n ++ r ++ s.extract n s.size).size = s.size + r.size) := by show (s.extract 0 n ++ r ++ s.extract n s.size).size = s.size + r.size; simp [ByteArray.size_append]; omega
  have k1 : ∀ w, (Op.stringOp .add (s.extract 0 n) r).run Tryz.prog w = .ok (.string (s.extract 0 n ++ r)) w := fun w => run_string_add_sum w _ _ (by simp; omega)
  have k2 : ∀ w, (Op.stringOp .add (s.extract 0 n ++ r) (s.extract n s.size)).run Tryz.prog w = .ok (.string (s.extract 0 n ++ r ++ s.extract n s.size)) w := fun w => run_string_add_sum w _ _ (by simp [ByteArray.size_append]; omega)
  have nn : (0 : Int) ≤ n := by omega
  have zg : g < w.heap.size := block_lt_of_cell ha.c0
  have HA : Hid _ := ha
  clear ha
  go_enter Tryz.func82, Tryz.ntmps82
  go_wp2_with fail
  have gr : Hid (Below w.heap.size w (w.alloc (.cells #[.int .u8 0, .int .u64 0, .string ⟨#[]⟩] 38))) := (Below.refl _ _).alloc (Nat.le_refl _) _
  have rb : Hid (VB (w.alloc (.cells #[.int .u8 0, .int .u64 0, .string ⟨#[]⟩] 38)) w.heap.size 0 0 E0) := ⟨by simp, by simp, by simp, by simp, by simp, by simp⟩
  have AA := HA.out.below gr.out
  have zW : w.heap.size < (w.alloc (.cells #[.int .u8 0, .int .u64 0, .string ⟨#[]⟩] 38)).heap.size := by simp
  generalize (w.alloc (.cells #[.int .u8 0, .int .u64 0, .string ⟨#[]⟩] 38)) = W at *
  have d0 : ∀ x : Sub W, x.w.cell? ⟨g, 0, none⟩ = some _ := fun x => (x.h.cell (p := ⟨g, 0, none⟩) (Nat.lt_trans zg zW)).trans AA.c0
  have d1 : ∀ x : Sub W, x.w.cell? ⟨g, 1, none⟩ = some _ := fun x => (x.h.cell (p := ⟨g, 1, none⟩) (Nat.lt_trans zg zW)).trans AA.c1
  have d2 : ∀ x : Sub W, x.w.cell? ⟨g, 2, none⟩ = some _ := fun x => (x.h.cell (p := ⟨g, 2, none⟩) (Nat.lt_trans zg zW)).trans AA.c2
  have d3 : ∀ x : Sub W, x.w.cell? ⟨g, 3, none⟩ = some _ := fun x => (x.h.cell (p := ⟨g, 3, none⟩) (Nat.lt_trans zg zW)).trans AA.c3
  have d4 : ∀ x : Sub W, x.w.cell? ⟨g, 4, none⟩ = some _ := fun x => (x.h.cell (p := ⟨g, 4, none⟩) (Nat.lt_trans zg zW)).trans AA.c4
  have d5 : ∀ x : Sub W, x.w.cell? ⟨g, 5, none⟩ = some _ := fun x => (x.h.cell (p := ⟨g, 5, none⟩) (Nat.lt_trans zg zW)).trans AA.c5
  have d6 : ∀ x : Sub W, x.w.cell? ⟨g, 6, none⟩ = some _ := fun x => (x.h.cell (p := ⟨g, 6, none⟩) (Nat.lt_trans zg zW)).trans AA.c6
  have d7 : ∀ x : Sub W, x.w.cell? ⟨g, 7, none⟩ = some _ := fun x => (x.h.cell (p := ⟨g, 7, none⟩) (Nat.lt_trans zg zW)).trans AA.c7
  have d8 : ∀ x : Sub W, x.w.cell? ⟨g, 8, none⟩ = some _ := fun x => (x.h.cell (p := ⟨g, 8, none⟩) (Nat.lt_trans zg zW)).trans AA.c8
  clear AA HA
  refine wp_region_sub2 (by kernel_rfl) (by kernel_rfl) ?_
  intro cx
  clear cx
  repeat (first | go_big_quiet_skip | (go_big_quiet_want; go_big_quiet_op; first | go_big_quiet_on | (refine ⟨_, fun _ => rfl, ?_⟩; go_big_quiet_on) | go_big_quiet_call (first | (go_at_call 112; exact calls_sub (W_.out _)))))
  refine wpQuiet_nil ?_
  rintro _ ⟨y, rfl⟩
  have Y : Hid (Below W.heap.size W y.w) := y.h
  have BY : Hid (Below w.heap.size w y.w) := gr.out.trans (y.h.mono (Nat.le_of_lt zW))
  have RB : Hid (VB y.w w.heap.size 0 0 E0) := rb.out.below y.h
  generalize y.w = w5 at *
  clear d0 d1 d2 d3 d4 d5 d6 d7 d8
  go_wp2_with fail
  go_region_held3 (fun _ => True) (trivial) (first | (go_at_call 123; refine (Text_no _ _ (by rw [za.out]; exact hsum) (by rw [za.out]; unfold maxLen; omega)).mono ?_; rintro e w6 ⟨rfl, hb6⟩; have B6 : Hid (Below w.heap.size w w6) := BY.out.drew.trans (hb6.mono BY.out.size); obtain ⟨r0, r1, r2, r3, r4, r5⟩ := (RB.out.below (Below.refl _ _).drew).below hb6; clear hb6))
  go_wp2
  exact bodyPost_ret (v := .tuple #[V 0 0 E0, .int .i64 5]) (by simp [results, Tryz.results82, go_sem, r0, r1, r2]) rfl ⟨rfl, ((B6.out.setCell (by simp) _).setCell (by simp) _).setCell (by simp) _⟩
end
section
variable (g cap : Nat) (hw : Int) (k b d c : Int) (s r t : ByteArray) (w : World)
set_option maxHeartbeats 2000000 in
theorem piece_of (n p : Nat) (hm0 : 0 ≤ d) (hm1 : d < 18446744073709551616) (hms : r.size ≤ maxLen) (mm : may3 3 d r = true) (hmn : wrap64 d = n) (h0 : 0 ≤ c) (h1 : c < 18446744073709551616) (hs : t.size ≤ maxLen) (m : may3 3 c t = true) (hp : wrap64 c = p) (hp1 : 1 ≤ p) (hl : p - 1 + n ≤ s.size) (hz : s.size ≤ 254) :
    Calls Tryz.prog 124 #[.string s, V 3 d r, V 3 c t] w fun e w' => e = .returned (.tuple #[.int .i64 ((p - 1 : Nat) : Int), .int .i64 ((p - 1 + n : Nat) : Int), .int .i64 0]) ∧ Below w.heap.size w w' := by
  have W1 : Hid (∀ w, Calls Tryz.prog 112 #[V 3 d r] w fun e w' => e = .returned (.int .i64 n) ∧ Below w.heap.size w w') := fun w => whole_is d r n w hm0 hm1 hms mm hmn
  have W2 : Hid (∀ w, Calls Tryz.prog 112 #[V 3 c t] w fun e w' => e = .returned (.int .i64 p) ∧ Below w.heap.size w w') := fun w => whole_is c t p w h0 h1 hs m hp
  clear mm hmn m hp
  have p1 : (1 : Int) ≤ p := by omega
  have pl : (p : Int) - 1 + n ≤ s.size := by omega
  have hz' : (s.size : Int) ≤ 254 := by omega
  have nn : (0 : Int) ≤ n := by omega
  have F1 : Hid (((p - 1 : Nat) : Int) = (p : Int) - 1) := by show ((p - 1 : Nat) : Int) = (p : Int) - 1; omega
  have F2 : Hid (((p - 1 + n : Nat) : Int) = (p : Int) - 1 + n) := by show ((p - 1 + n : Nat) : Int) = (p : Int) - 1 + n; omega
  rw [F1.out, F2.out]
  go_enter Tryz.func124, Tryz.ntmps124
  go_wp2_with fail
  refine wp_region_sub2 (by kernel_rfl) (by kernel_rfl) ?_
  intro cx
  repeat (first | go_big_quiet_skip | (go_big_quiet_want; go_big_quiet_op; first | go_big_quiet_on | (refine ⟨_, fun _ => rfl, ?_⟩; go_big_quiet_on) | go_big_quiet_call (first | (go_at_call_of 112 r; exact calls_sub (W1.out _)) | (go_at_call_of 112 t; exact calls_sub (W2.out _)))))
  refine wpQuiet_nil ?_
  rintro _ ⟨y, rfl⟩
  have BY : Hid (Below w.heap.size w y.w) := (((Below.refl _ _).alloc (Nat.le_refl _) _).alloc (by simp) _).trans (y.h.mono (by simp; omega))
  clear cx
  go_wp2
  go_ret3
  exact ⟨rfl, BY.out⟩
end
end Go.Proofs.YtkanhbokdjppoaaGreatDoor
