/- What REPLACE gives; no statement of the seat is proved here. -/
import Derived.Test.YtpaibmganlaaeaaGreatDoorFwB
import Derived.Deep.RegionHeld3
namespace Go.Proofs.YtpaibmganlaaeaaGreatDoor
set_option linter.unusedVariables false
open Go.RowKit
section
variable (g n cap : Nat) (k b : Int) (s : ByteArray) (w : World)
set_option maxHeartbeats 1000000 in
theorem turnS_g (op rk rb fa : Int) (rs : ByteArray) (ha : A1 w g ⟨k, b, s⟩) (hn : (0 : Int) < n) (M : ∀ W, Calls Tryz.prog 89 #[.int .i64 op, V k b s] W fun e w' => e = .returned (.tuple #[V rk rb rs, .int .i64 fa]) ∧ Below W.heap.size W w') :
    Calls Tryz.prog 38 #[.int .i64 op, .slice (some ⟨g, 0, none⟩) n cap] w fun e w' => e = .returned (.tuple #[V rk rb rs, .int .i64 fa]) ∧ Below w.heap.size w w' := by
  have HM : Hid _ := M
  obtain ⟨a0, a1, a2⟩ := ha
  have zg : g < w.heap.size := block_lt_of_cell a0
  clear M
  go_enter Tryz.func38, Tryz.ntmps38
  go_wp2_with (first | (go_at_call 89; refine (HM.out _).mono ?_; rintro e w1 ⟨rfl, hb⟩; obtain ⟨q, fq⟩ := bcell hb; have s1 := hb.size; (try simp at s1); have q0 := q w.heap.size 0 (by simp); have q1 := q w.heap.size 1 (by simp); have q2 := q w.heap.size 2 (by simp); have f0 := fq w.heap.size 0 (by simp); have f1 := fq w.heap.size 1 (by simp); have f2 := fq w.heap.size 2 (by simp); simp at q0 q1 q2 f0 f1 f2; have HB : Hid (Below w.heap.size w w1) := ((Below.refl _ _).alloc (Nat.le_refl _) _).trans (hb.mono (by simp)); clear hb q fq))
  exact bodyPost_ret (v := .tuple #[V rk rb rs, .int .i64 fa]) (by simp [results, Tryz.results38, go_sem, q0, q1, q2]) rfl ⟨rfl, ((HB.out.setCell (by simp) _).setCell (by simp) _).setCell (by simp) _⟩
set_option maxHeartbeats 1000000 in
theorem convertS_g (tk rk rb fa : Int) (rs : ByteArray) (ha : A1 w g ⟨k, b, s⟩) (hn : (0 : Int) < n) (ht : 0 ≤ tk ∧ tk < 256) (M : ∀ W, Below w.heap.size w W → Calls Tryz.prog 114 #[.int .u8 tk, V k b s] W fun e w' => e = .returned (.tuple #[V rk rb rs, .int .i64 fa]) ∧ Below W.heap.size W w') :
    Calls Tryz.prog 73 #[.int .i64 tk, .slice (some ⟨g, 0, none⟩) n cap] w fun e w' => e = .returned (.tuple #[V rk rb rs, .int .i64 fa]) ∧ Below w.heap.size w w' := by
  have HM : Hid _ := M
  obtain ⟨a0, a1, a2⟩ := ha
  have zg : g < w.heap.size := block_lt_of_cell a0
  have tu : IntKind.u8.wrap tk = tk := by rw [IntKind.wrap_u8]; omega
  clear M
  go_enter Tryz.func73, Tryz.ntmps73
  go_wp2_with (first | (go_at_call 114; refine (HM.out _ ((Below.refl _ _).alloc (Nat.le_refl _) _)).mono ?_; rintro e w1 ⟨rfl, hb⟩; obtain ⟨q, fq⟩ := bcell hb; have s1 := hb.size; (try simp at s1); have q0 := q w.heap.size 0 (by simp); have q1 := q w.heap.size 1 (by simp); have q2 := q w.heap.size 2 (by simp); have f0 := fq w.heap.size 0 (by simp); have f1 := fq w.heap.size 1 (by simp); have f2 := fq w.heap.size 2 (by simp); simp at q0 q1 q2 f0 f1 f2; have HB : Hid (Below w.heap.size w w1) := ((Below.refl _ _).alloc (Nat.le_refl _) _).trans (hb.mono (by simp)); clear hb q fq))
  exact bodyPost_ret (v := .tuple #[V rk rb rs, .int .i64 fa]) (by simp [results, Tryz.results73, go_sem, q0, q1, q2]) rfl ⟨rfl, ((HB.out.setCell (by simp) _).setCell (by simp) _).setCell (by simp) _⟩
set_option maxHeartbeats 1000000 in
theorem length_of (hw : Int) (ha : A1 w g ⟨k, b, s⟩) (hn : (0 : Int) < n) (rb : Int) (hs : s.size ≤ 254) (M : ∀ W, Calls Tryz.prog 108 #[.int .u8 3, .int .i64 s.size] W fun e w' => e = .returned (.tuple #[V 3 rb E0, .int .i64 0]) ∧ Below W.heap.size W w') :
    Calls Tryz.prog 56 #[.int .i64 hw, .slice (some ⟨g, 0, none⟩) n cap] w fun e w' => e = .returned (.tuple #[V 3 rb E0, .int .i64 0]) ∧ Below w.heap.size w w' := by
  have HM : Hid _ := M
  obtain ⟨a0, a1, a2⟩ := ha
  have zg : g < w.heap.size := block_lt_of_cell a0
  clear M
  go_enter Tryz.func56, Tryz.ntmps56
  go_wp2_with (first | (go_at_call 108; refine (HM.out _).mono ?_; rintro e w1 ⟨rfl, hb⟩; obtain ⟨q, fq⟩ := bcell hb; have s1 := hb.size; (try simp at s1); have q0 := q w.heap.size 0 (by simp); have q1 := q w.heap.size 1 (by simp); have q2 := q w.heap.size 2 (by simp); have f0 := fq w.heap.size 0 (by simp); have f1 := fq w.heap.size 1 (by simp); have f2 := fq w.heap.size 2 (by simp); simp at q0 q1 q2 f0 f1 f2; have HB : Hid (Below w.heap.size w w1) := ((Below.refl _ _).alloc (Nat.le_refl _) _).trans (hb.mono (by simp)); clear hb q fq))
  exact bodyPost_ret (v := .tuple #[V 3 rb E0, .int .i64 0]) (by simp [results, Tryz.results56, go_sem, q0, q1, q2]) rfl ⟨rfl, ((HB.out.setCell (by simp) _).setCell (by simp) _).setCell (by simp) _⟩
end
end Go.Proofs.YtpaibmganlaaeaaGreatDoor
namespace Go.Proofs.YtpaibmganlaaeaaGreatDoor
set_option linter.unusedVariables false
open Go.RowKit
section
variable (g cap : Nat) (hw : Int) (k b l c : Int) (s t : ByteArray) (w : World)
set_option maxRecDepth 20000 in
set_option maxHeartbeats 2000000 in
theorem left_neg (n : Int) (ha : A2 w g ⟨k, b, s⟩ ⟨l, c, t⟩) (W_ : ∀ w, Calls Tryz.prog 98 #[V l c t] w fun e w' => e = .returned (.int .i64 n) ∧ Below w.heap.size w w') (hn : n < 0) (hz : s.size ≤ 254) :
    Calls Tryz.prog 57 #[.int .i64 hw, .slice (some ⟨g, 0, none⟩) 2 cap] w fun e w' => e = .returned (.tuple #[V 0 0 E0, .int .i64 3]) ∧ Below w.heap.size w w' := by
  have W_ : Hid _ := W_
  have zg : g < w.heap.size := block_lt_of_cell ha.c0
  have HA : Hid _ := ha
  clear ha
  clear hz 
  go_enter Tryz.func57, Tryz.ntmps57
  go_wp2_with fail
  have gr : Hid (Below w.heap.size w (w.alloc (.cells #[.int .u8 0, .int .u64 0, .string ⟨#[]⟩] 27))) := (Below.refl _ _).alloc (Nat.le_refl _) _
  have rb : Hid (VB (w.alloc (.cells #[.int .u8 0, .int .u64 0, .string ⟨#[]⟩] 27)) w.heap.size 0 0 E0) := ⟨by simp, by simp, by simp, by simp, by simp, by simp⟩
  have AA := HA.out.below gr.out
  have zW : w.heap.size < (w.alloc (.cells #[.int .u8 0, .int .u64 0, .string ⟨#[]⟩] 27)).heap.size := by simp
  generalize (w.alloc (.cells #[.int .u8 0, .int .u64 0, .string ⟨#[]⟩] 27)) = W at *
  have d0 : ∀ x : Sub W, x.w.cell? ⟨g, 0, none⟩ = some _ := fun x => (x.h.cell (p := ⟨g, 0, none⟩) (Nat.lt_trans zg zW)).trans AA.c0
  have d1 : ∀ x : Sub W, x.w.cell? ⟨g, 1, none⟩ = some _ := fun x => (x.h.cell (p := ⟨g, 1, none⟩) (Nat.lt_trans zg zW)).trans AA.c1
  have d2 : ∀ x : Sub W, x.w.cell? ⟨g, 2, none⟩ = some _ := fun x => (x.h.cell (p := ⟨g, 2, none⟩) (Nat.lt_trans zg zW)).trans AA.c2
  have d3 : ∀ x : Sub W, x.w.cell? ⟨g, 3, none⟩ = some _ := fun x => (x.h.cell (p := ⟨g, 3, none⟩) (Nat.lt_trans zg zW)).trans AA.c3
  have d4 : ∀ x : Sub W, x.w.cell? ⟨g, 4, none⟩ = some _ := fun x => (x.h.cell (p := ⟨g, 4, none⟩) (Nat.lt_trans zg zW)).trans AA.c4
  have d5 : ∀ x : Sub W, x.w.cell? ⟨g, 5, none⟩ = some _ := fun x => (x.h.cell (p := ⟨g, 5, none⟩) (Nat.lt_trans zg zW)).trans AA.c5
  clear AA HA
  refine wp_region_sub2 (by kernel_rfl) (by kernel_rfl) ?_
  intro cx
  clear cx
  repeat (first | go_big_quiet_skip | (go_big_quiet_want; go_big_quiet_op; first | go_big_quiet_on | (refine ⟨_, fun _ => rfl, ?_⟩; go_big_quiet_on) | go_big_quiet_call (first | (go_at_call 98; exact calls_sub (W_.out _)))))
  refine wpQuiet_nil ?_
  rintro _ ⟨y, rfl⟩
  have BY : Hid (Below w.heap.size w y.w) := gr.out.trans (y.h.mono (Nat.le_of_lt zW))
  have RB : Hid (VB y.w w.heap.size 0 0 E0) := rb.out.below y.h
  generalize y.w = w5 at *
  clear d0 d1 d2 d3 d4 d5
  obtain ⟨r0, r1, r2, r3, r4, r5⟩ := RB.out
  go_wp2
  exact bodyPost_ret (v := .tuple #[V 0 0 E0, .int .i64 3]) (by simp [results, Tryz.results57, go_sem, r0, r1, r2]) rfl ⟨rfl, ((BY.out.setCell (by simp) _).setCell (by simp) _).setCell (by simp) _⟩
set_option maxRecDepth 20000 in
set_option maxHeartbeats 2000000 in
theorem left_pos (n : Int) (ha : A2 w g ⟨k, b, s⟩ ⟨l, c, t⟩) (W_ : ∀ w, Calls Tryz.prog 98 #[V l c t] w fun e w' => e = .returned (.int .i64 n) ∧ Below w.heap.size w w') (hl : 0 ≤ n) (hz : s.size ≤ 254) :
    Calls Tryz.prog 57 #[.int .i64 hw, .slice (some ⟨g, 0, none⟩) 2 cap] w fun e w' => e = .returned (.tuple #[V 19 0 (s.extract 0 (min n (s.size : Int)).toNat), .int .i64 0]) ∧ Below w.heap.size w w' := by
  have W_ : Hid _ := W_
  have zg : g < w.heap.size := block_lt_of_cell ha.c0
  have HA : Hid _ := ha
  clear ha
  have nn : 0 ≤ n := hl
  have sz : Hid ((s.extract 0 (min n (s.size : Int)).toNat).size ≤ 254) := by show (s.extract 0 (min n (s.size : Int)).toNat).size ≤ 254; simp; omega
  have Hnn : Hid _ := nn
  clear hz nn hl
  go_enter Tryz.func57, Tryz.ntmps57
  go_wp2_with fail
  have gr : Hid (Below w.heap.size w (w.alloc (.cells #[.int .u8 0, .int .u64 0, .string ⟨#[]⟩] 27))) := (Below.refl _ _).alloc (Nat.le_refl _) _
  have rb : Hid (VB (w.alloc (.cells #[.int .u8 0, .int .u64 0, .string ⟨#[]⟩] 27)) w.heap.size 0 0 E0) := ⟨by simp, by simp, by simp, by simp, by simp, by simp⟩
  have AA := HA.out.below gr.out
  have zW : w.heap.size < (w.alloc (.cells #[.int .u8 0, .int .u64 0, .string ⟨#[]⟩] 27)).heap.size := by simp
  generalize (w.alloc (.cells #[.int .u8 0, .int .u64 0, .string ⟨#[]⟩] 27)) = W at *
  have d0 : ∀ x : Sub W, x.w.cell? ⟨g, 0, none⟩ = some _ := fun x => (x.h.cell (p := ⟨g, 0, none⟩) (Nat.lt_trans zg zW)).trans AA.c0
  have d1 : ∀ x : Sub W, x.w.cell? ⟨g, 1, none⟩ = some _ := fun x => (x.h.cell (p := ⟨g, 1, none⟩) (Nat.lt_trans zg zW)).trans AA.c1
  have d2 : ∀ x : Sub W, x.w.cell? ⟨g, 2, none⟩ = some _ := fun x => (x.h.cell (p := ⟨g, 2, none⟩) (Nat.lt_trans zg zW)).trans AA.c2
  have d3 : ∀ x : Sub W, x.w.cell? ⟨g, 3, none⟩ = some _ := fun x => (x.h.cell (p := ⟨g, 3, none⟩) (Nat.lt_trans zg zW)).trans AA.c3
  have d4 : ∀ x : Sub W, x.w.cell? ⟨g, 4, none⟩ = some _ := fun x => (x.h.cell (p := ⟨g, 4, none⟩) (Nat.lt_trans zg zW)).trans AA.c4
  have d5 : ∀ x : Sub W, x.w.cell? ⟨g, 5, none⟩ = some _ := fun x => (x.h.cell (p := ⟨g, 5, none⟩) (Nat.lt_trans zg zW)).trans AA.c5
  clear AA HA
  refine wp_region_sub2 (by kernel_rfl) (by kernel_rfl) ?_
  intro cx
  clear cx
  repeat (first | go_big_quiet_skip | (go_big_quiet_want; go_big_quiet_op; first | go_big_quiet_on | (refine ⟨_, fun _ => rfl, ?_⟩; go_big_quiet_on) | go_big_quiet_call (first | (go_at_call 98; exact calls_sub (W_.out _)))))
  refine wpQuiet_nil ?_
  rintro _ ⟨y, rfl⟩
  have BY : Hid (Below w.heap.size w y.w) := gr.out.trans (y.h.mono (Nat.le_of_lt zW))
  have RB : Hid (VB y.w w.heap.size 0 0 E0) := rb.out.below y.h
  generalize y.w = w5 at *
  clear d0 d1 d2 d3 d4 d5
  have nn := Hnn.out
  go_wp2_with (first | (go_at_call 109; refine (Text_yes _ _ sz.out).mono ?_; rintro e w6 ⟨rfl, hb6⟩; have B6 : Hid (Below w.heap.size w w6) := BY.out.trans (hb6.mono BY.out.size); obtain ⟨r0, r1, r2, r3, r4, r5⟩ := RB.out.below hb6; clear hb6))
  exact bodyPost_ret (v := .tuple #[V 19 0 (s.extract 0 (min n (s.size : Int)).toNat), .int .i64 0]) (by simp [results, Tryz.results57, go_sem, r0, r1, r2]) rfl ⟨rfl, ((B6.out.setCell (by simp) _).setCell (by simp) _).setCell (by simp) _⟩
set_option maxRecDepth 20000 in
set_option maxHeartbeats 2000000 in
theorem right_neg (n : Int) (ha : A2 w g ⟨k, b, s⟩ ⟨l, c, t⟩) (W_ : ∀ w, Calls Tryz.prog 98 #[V l c t] w fun e w' => e = .returned (.int .i64 n) ∧ Below w.heap.size w w') (hn : n < 0) (hz : s.size ≤ 254) :
    Calls Tryz.prog 58 #[.int .i64 hw, .slice (some ⟨g, 0, none⟩) 2 cap] w fun e w' => e = .returned (.tuple #[V 0 0 E0, .int .i64 3]) ∧ Below w.heap.size w w' := by
  have W_ : Hid _ := W_
  have zg : g < w.heap.size := block_lt_of_cell ha.c0
  have HA : Hid _ := ha
  clear ha
  clear hz 
  go_enter Tryz.func58, Tryz.ntmps58
  go_wp2_with fail
  have gr : Hid (Below w.heap.size w (w.alloc (.cells #[.int .u8 0, .int .u64 0, .string ⟨#[]⟩] 27))) := (Below.refl _ _).alloc (Nat.le_refl _) _
  have rb : Hid (VB (w.alloc (.cells #[.int .u8 0, .int .u64 0, .string ⟨#[]⟩] 27)) w.heap.size 0 0 E0) := ⟨by simp, by simp, by simp, by simp, by simp, by simp⟩
  have AA := HA.out.below gr.out
  have zW : w.heap.size < (w.alloc (.cells #[.int .u8 0, .int .u64 0, .string ⟨#[]⟩] 27)).heap.size := by simp
  generalize (w.alloc (.cells #[.int .u8 0, .int .u64 0, .string ⟨#[]⟩] 27)) = W at *
  have d0 : ∀ x : Sub W, x.w.cell? ⟨g, 0, none⟩ = some _ := fun x => (x.h.cell (p := ⟨g, 0, none⟩) (Nat.lt_trans zg zW)).trans AA.c0
  have d1 : ∀ x : Sub W, x.w.cell? ⟨g, 1, none⟩ = some _ := fun x => (x.h.cell (p := ⟨g, 1, none⟩) (Nat.lt_trans zg zW)).trans AA.c1
  have d2 : ∀ x : Sub W, x.w.cell? ⟨g, 2, none⟩ = some _ := fun x => (x.h.cell (p := ⟨g, 2, none⟩) (Nat.lt_trans zg zW)).trans AA.c2
  have d3 : ∀ x : Sub W, x.w.cell? ⟨g, 3, none⟩ = some _ := fun x => (x.h.cell (p := ⟨g, 3, none⟩) (Nat.lt_trans zg zW)).trans AA.c3
  have d4 : ∀ x : Sub W, x.w.cell? ⟨g, 4, none⟩ = some _ := fun x => (x.h.cell (p := ⟨g, 4, none⟩) (Nat.lt_trans zg zW)).trans AA.c4
  have d5 : ∀ x : Sub W, x.w.cell? ⟨g, 5, none⟩ = some _ := fun x => (x.h.cell (p := ⟨g, 5, none⟩) (Nat.lt_trans zg zW)).trans AA.c5
  clear AA HA
  refine wp_region_sub2 (by kernel_rfl) (by kernel_rfl) ?_
  intro cx
  clear cx
  repeat (first | go_big_quiet_skip | (go_big_quiet_want; go_big_quiet_op; first | go_big_quiet_on | (refine ⟨_, fun _ => rfl, ?_⟩; go_big_quiet_on) | go_big_quiet_call (first | (go_at_call 98; exact calls_sub (W_.out _)))))
  refine wpQuiet_nil ?_
  rintro _ ⟨y, rfl⟩
  have BY : Hid (Below w.heap.size w y.w) := gr.out.trans (y.h.mono (Nat.le_of_lt zW))
  have RB : Hid (VB y.w w.heap.size 0 0 E0) := rb.out.below y.h
  generalize y.w = w5 at *
  clear d0 d1 d2 d3 d4 d5
  obtain ⟨r0, r1, r2, r3, r4, r5⟩ := RB.out
  go_wp2
  exact bodyPost_ret (v := .tuple #[V 0 0 E0, .int .i64 3]) (by simp [results, Tryz.results58, go_sem, r0, r1, r2]) rfl ⟨rfl, ((BY.out.setCell (by simp) _).setCell (by simp) _).setCell (by simp) _⟩
set_option maxRecDepth 20000 in
set_option maxHeartbeats 2000000 in
theorem right_pos (n : Int) (ha : A2 w g ⟨k, b, s⟩ ⟨l, c, t⟩) (W_ : ∀ w, Calls Tryz.prog 98 #[V l c t] w fun e w' => e = .returned (.int .i64 n) ∧ Below w.heap.size w w') (hl : 0 ≤ n) (z : Int) (E : wrap64 ((s.size : Int) - min n (s.size : Int)) = z) (z0 : 0 ≤ z) (z1 : z ≤ (s.size : Int)) (hz : s.size ≤ 254) :
    Calls Tryz.prog 58 #[.int .i64 hw, .slice (some ⟨g, 0, none⟩) 2 cap] w fun e w' => e = .returned (.tuple #[V 19 0 (s.extract z.toNat s.size), .int .i64 0]) ∧ Below w.heap.size w w' := by
  have W_ : Hid _ := W_
  have zg : g < w.heap.size := block_lt_of_cell ha.c0
  have HA : Hid _ := ha
  clear ha
  have nn : 0 ≤ n := hl
  have sz : Hid ((s.extract z.toNat s.size).size ≤ 254) := by show (s.extract z.toNat s.size).size ≤ 254; simp; omega
  have Hnn : Hid _ := nn
  clear hz nn hl
  go_enter Tryz.func58, Tryz.ntmps58
  go_wp2_with fail
  have gr : Hid (Below w.heap.size w (w.alloc (.cells #[.int .u8 0, .int .u64 0, .string ⟨#[]⟩] 27))) := (Below.refl _ _).alloc (Nat.le_refl _) _
  have rb : Hid (VB (w.alloc (.cells #[.int .u8 0, .int .u64 0, .string ⟨#[]⟩] 27)) w.heap.size 0 0 E0) := ⟨by simp, by simp, by simp, by simp, by simp, by simp⟩
  have AA := HA.out.below gr.out
  have zW : w.heap.size < (w.alloc (.cells #[.int .u8 0, .int .u64 0, .string ⟨#[]⟩] 27)).heap.size := by simp
  generalize (w.alloc (.cells #[.int .u8 0, .int .u64 0, .string ⟨#[]⟩] 27)) = W at *
  have d0 : ∀ x : Sub W, x.w.cell? ⟨g, 0, none⟩ = some _ := fun x => (x.h.cell (p := ⟨g, 0, none⟩) (Nat.lt_trans zg zW)).trans AA.c0
  have d1 : ∀ x : Sub W, x.w.cell? ⟨g, 1, none⟩ = some _ := fun x => (x.h.cell (p := ⟨g, 1, none⟩) (Nat.lt_trans zg zW)).trans AA.c1
  have d2 : ∀ x : Sub W, x.w.cell? ⟨g, 2, none⟩ = some _ := fun x => (x.h.cell (p := ⟨g, 2, none⟩) (Nat.lt_trans zg zW)).trans AA.c2
  have d3 : ∀ x : Sub W, x.w.cell? ⟨g, 3, none⟩ = some _ := fun x => (x.h.cell (p := ⟨g, 3, none⟩) (Nat.lt_trans zg zW)).trans AA.c3
  have d4 : ∀ x : Sub W, x.w.cell? ⟨g, 4, none⟩ = some _ := fun x => (x.h.cell (p := ⟨g, 4, none⟩) (Nat.lt_trans zg zW)).trans AA.c4
  have d5 : ∀ x : Sub W, x.w.cell? ⟨g, 5, none⟩ = some _ := fun x => (x.h.cell (p := ⟨g, 5, none⟩) (Nat.lt_trans zg zW)).trans AA.c5
  clear AA HA
  refine wp_region_sub2 (by kernel_rfl) (by kernel_rfl) ?_
  intro cx
  clear cx
  repeat (first | go_big_quiet_skip | (go_big_quiet_want; go_big_quiet_op; first | go_big_quiet_on | (refine ⟨_, fun _ => rfl, ?_⟩; go_big_quiet_on) | go_big_quiet_call (first | (go_at_call 98; exact calls_sub (W_.out _)))))
  refine wpQuiet_nil ?_
  rintro _ ⟨y, rfl⟩
  have BY : Hid (Below w.heap.size w y.w) := gr.out.trans (y.h.mono (Nat.le_of_lt zW))
  have RB : Hid (VB y.w w.heap.size 0 0 E0) := rb.out.below y.h
  generalize y.w = w5 at *
  clear d0 d1 d2 d3 d4 d5
  have nn := Hnn.out
  go_wp2_with (first | (go_at_call 109; refine (Text_yes _ _ sz.out).mono ?_; rintro e w6 ⟨rfl, hb6⟩; have B6 : Hid (Below w.heap.size w w6) := BY.out.trans (hb6.mono BY.out.size); obtain ⟨r0, r1, r2, r3, r4, r5⟩ := RB.out.below hb6; clear hb6))
  exact bodyPost_ret (v := .tuple #[V 19 0 (s.extract z.toNat s.size), .int .i64 0]) (by simp [results, Tryz.results58, go_sem, r0, r1, r2]) rfl ⟨rfl, ((B6.out.setCell (by simp) _).setCell (by simp) _).setCell (by simp) _⟩
end
end Go.Proofs.YtpaibmganlaaeaaGreatDoor
namespace Go.Proofs.YtpaibmganlaaeaaGreatDoor
set_option linter.unusedVariables false
open Go.RowKit
section
variable (kd d kc c : Int) (s r t : ByteArray) (w : World)
set_option maxHeartbeats 2000000 in
theorem piece_no (n p : Int) (W1 : ∀ w, Calls Tryz.prog 98 #[V kd d r] w fun e w' => e = .returned (.int .i64 n) ∧ Below w.heap.size w w') (W2 : ∀ w, Calls Tryz.prog 98 #[V kc c t] w fun e w' => e = .returned (.int .i64 p) ∧ Below w.heap.size w w') (h : n < 0 ∨ p < 1) :
    Calls Tryz.prog 110 #[.string s, V kd d r, V kc c t] w fun e w' => e = .returned (.tuple #[.int .i64 0, .int .i64 0, .int .i64 3]) ∧ Below w.heap.size w w' := by
  have W1 : Hid _ := W1
  have W2 : Hid _ := W2
  go_enter Tryz.func110, Tryz.ntmps110
  go_wp2_with fail
  refine wp_region_sub2 (by kernel_rfl) (by kernel_rfl) ?_
  intro cx
  repeat (first | go_big_quiet_skip | (go_big_quiet_want; go_big_quiet_op; first | go_big_quiet_on | (refine ⟨_, fun _ => rfl, ?_⟩; go_big_quiet_on) | go_big_quiet_call (first | (go_at_call_of 98 r; exact calls_sub (W1.out _)) | (go_at_call_of 98 t; exact calls_sub (W2.out _)))))
  refine wpQuiet_nil ?_
  rintro _ ⟨y, rfl⟩
  have BY : Hid (Below w.heap.size w y.w) := (((Below.refl _ _).alloc (Nat.le_refl _) _).alloc (by simp) _).trans (y.h.mono (by simp; omega))
  clear cx
  rcases h with h | h
  · go_wp2
    go_ret3
    exact ⟨rfl, BY.out⟩
  · by_cases q : n < 0
    all_goals
      go_wp2
      go_ret3
      exact ⟨rfl, BY.out⟩
set_option maxHeartbeats 2000000 in
theorem piece_yes (n p f m : Int) (W1 : ∀ w, Calls Tryz.prog 98 #[V kd d r] w fun e w' => e = .returned (.int .i64 n) ∧ Below w.heap.size w w') (W2 : ∀ w, Calls Tryz.prog 98 #[V kc c t] w fun e w' => e = .returned (.int .i64 p) ∧ Below w.heap.size w w') (h : 0 ≤ n) (h' : 1 ≤ p) (hp : p ≤ 9223372036854775807)
    (E1 : min (p - 1) (s.size : Int) = f) (f0 : 0 ≤ f) (f1 : f ≤ 254) (E2 : min n ((s.size : Int) - f) = m) (m0 : 0 ≤ m) (m1 : m ≤ 254) (hz : (s.size : Int) ≤ 254) :
    Calls Tryz.prog 110 #[.string s, V kd d r, V kc c t] w fun e w' => e = .returned (.tuple #[.int .i64 f, .int .i64 (f + m), .int .i64 0]) ∧ Below w.heap.size w w' := by
  have W1 : Hid _ := W1
  have W2 : Hid _ := W2
  have H1 : Hid _ := E1
  have H2 : Hid _ := E2
  have H3 : Hid _ := hz
  have H4 : Hid _ := f1
  have H5 : Hid _ := m1
  have H6 : Hid _ := h'
  have H7 : Hid _ := hp
  clear E1 E2 hz f1 m1 h' hp
  go_enter Tryz.func110, Tryz.ntmps110
  go_wp2_with fail
  refine wp_region_sub2 (by kernel_rfl) (by kernel_rfl) ?_
  intro cx
  repeat (first | go_big_quiet_skip | (go_big_quiet_want; go_big_quiet_op; first | go_big_quiet_on | (refine ⟨_, fun _ => rfl, ?_⟩; go_big_quiet_on) | go_big_quiet_call (first | (go_at_call_of 98 r; exact calls_sub (W1.out _)) | (go_at_call_of 98 t; exact calls_sub (W2.out _)))))
  refine wpQuiet_nil ?_
  rintro _ ⟨y, rfl⟩
  have BY : Hid (Below w.heap.size w y.w) := (((Below.refl _ _).alloc (Nat.le_refl _) _).alloc (by simp) _).trans (y.h.mono (by simp; omega))
  clear cx
  have E1 : min (wrap64 (p - 1)) (s.size : Int) = f := by have a := H1.out; have b := H6.out; have c := H7.out; rw [show wrap64 (p - 1) = p - 1 by unfold wrap64; omega]; exact a
  have E2 : min n (wrap64 ((s.size : Int) - f)) = m := by have a := H2.out; have b := H3.out; have c := H4.out; rw [show wrap64 ((s.size : Int) - f) = (s.size : Int) - f by unfold wrap64; omega]; exact a
  have E3 : wrap64 (f + m) = f + m := by have a := H4.out; have b := H5.out; unfold wrap64; omega
  have h' := H6.out
  have n1 : ¬ n < 0 := by omega
  have p1 : ¬ p < 1 := by omega
  go_wp2
  go_ret3
  exact ⟨rfl, BY.out⟩
end
end Go.Proofs.YtpaibmganlaaeaaGreatDoor
namespace Go.Proofs.YtpaibmganlaaeaaGreatDoor
set_option linter.unusedVariables false
open Go.RowKit
section
variable (g cap : Nat) (hw : Int) (k b kd d kc c : Int) (s r t : ByteArray) (w : World)
set_option maxRecDepth 20000 in
set_option maxHeartbeats 2000000 in
theorem middle_no (ha : A3 w g ⟨k, b, s⟩ ⟨kd, d, r⟩ ⟨kc, c, t⟩) (PC : ∀ w, Calls Tryz.prog 110 #[.string s, V kd d r, V kc c t] w fun e w' => e = .returned (.tuple #[.int .i64 0, .int .i64 0, .int .i64 3]) ∧ Below w.heap.size w w') :
    Calls Tryz.prog 59 #[.int .i64 hw, .slice (some ⟨g, 0, none⟩) 3 cap] w fun e w' => e = .returned (.tuple #[V 0 0 E0, .int .i64 3]) ∧ Below w.heap.size w w' := by
  have PC : Hid _ := PC
  have zg : g < w.heap.size := block_lt_of_cell ha.c0
  have a2 := ha.c2
  have HA : Hid _ := ha
  clear ha
  go_enter Tryz.func59, Tryz.ntmps59
  go_wp2_with fail
  have gr : Hid (Below w.heap.size w (w.alloc (.cells #[.int .u8 0, .int .u64 0, .string ⟨#[]⟩] 27))) := (Below.refl _ _).alloc (Nat.le_refl _) _
  have rb : Hid (VB (w.alloc (.cells #[.int .u8 0, .int .u64 0, .string ⟨#[]⟩] 27)) w.heap.size 0 0 E0) := ⟨by simp, by simp, by simp, by simp, by simp, by simp⟩
  have AA := HA.out.below gr.out
  have zW : w.heap.size < (w.alloc (.cells #[.int .u8 0, .int .u64 0, .string ⟨#[]⟩] 27)).heap.size := by simp
  generalize (w.alloc (.cells #[.int .u8 0, .int .u64 0, .string ⟨#[]⟩] 27)) = W at *
  have d0 : ∀ x : Sub W, x.w.cell? ⟨g, 0, none⟩ = some _ := fun x => (x.h.cell (p := ⟨g, 0, none⟩) (Nat.lt_trans zg zW)).trans AA.c0
  have d1 : ∀ x : Sub W, x.w.cell? ⟨g, 1, none⟩ = some _ := fun x => (x.h.cell (p := ⟨g, 1, none⟩) (Nat.lt_trans zg zW)).trans AA.c1
  have d2 : ∀ x : Sub W, x.w.cell? ⟨g, 2, none⟩ = some _ := fun x => (x.h.cell (p := ⟨g, 2, none⟩) (Nat.lt_trans zg zW)).trans AA.c2
  have d3 : ∀ x : Sub W, x.w.cell? ⟨g, 3, none⟩ = some _ := fun x => (x.h.cell (p := ⟨g, 3, none⟩) (Nat.lt_trans zg zW)).trans AA.c3
  have d4 : ∀ x : Sub W, x.w.cell? ⟨g, 4, none⟩ = some _ := fun x => (x.h.cell (p := ⟨g, 4, none⟩) (Nat.lt_trans zg zW)).trans AA.c4
  have d5 : ∀ x : Sub W, x.w.cell? ⟨g, 5, none⟩ = some _ := fun x => (x.h.cell (p := ⟨g, 5, none⟩) (Nat.lt_trans zg zW)).trans AA.c5
  have d6 : ∀ x : Sub W, x.w.cell? ⟨g, 6, none⟩ = some _ := fun x => (x.h.cell (p := ⟨g, 6, none⟩) (Nat.lt_trans zg zW)).trans AA.c6
  have d7 : ∀ x : Sub W, x.w.cell? ⟨g, 7, none⟩ = some _ := fun x => (x.h.cell (p := ⟨g, 7, none⟩) (Nat.lt_trans zg zW)).trans AA.c7
  have d8 : ∀ x : Sub W, x.w.cell? ⟨g, 8, none⟩ = some _ := fun x => (x.h.cell (p := ⟨g, 8, none⟩) (Nat.lt_trans zg zW)).trans AA.c8
  clear AA HA a2
  refine wp_region_sub2 (by kernel_rfl) (by kernel_rfl) ?_
  intro cx
  clear cx
  repeat (first | go_big_quiet_skip | (go_big_quiet_want; go_big_quiet_op; first | go_big_quiet_on | (refine ⟨_, fun _ => rfl, ?_⟩; go_big_quiet_on) | go_big_quiet_call (first | (go_at_call 110; exact calls_sub (PC.out _)))))
  refine wpQuiet_nil ?_
  rintro _ ⟨y, rfl⟩
  have BY : Hid (Below w.heap.size w y.w) := gr.out.trans (y.h.mono (Nat.le_of_lt zW))
  have RB : Hid (VB y.w w.heap.size 0 0 E0) := rb.out.below y.h
  generalize y.w = w5 at *
  clear d0 d1 d2 d3 d4 d5 d6 d7 d8
  obtain ⟨r0, r1, r2, r3, r4, r5⟩ := RB.out
  go_wp2
  exact bodyPost_ret (v := .tuple #[V 0 0 E0, .int .i64 3]) (by simp [results, Tryz.results59, go_sem, r0, r1, r2]) rfl ⟨rfl, ((BY.out.setCell (by simp) _).setCell (by simp) _).setCell (by simp) _⟩
set_option maxRecDepth 20000 in
set_option maxHeartbeats 2000000 in
theorem middle_yes (ha : A3 w g ⟨k, b, s⟩ ⟨kd, d, r⟩ ⟨kc, c, t⟩) (f m : Int) (PC : ∀ w, Calls Tryz.prog 110 #[.string s, V kd d r, V kc c t] w fun e w' => e = .returned (.tuple #[.int .i64 f, .int .i64 (f + m), .int .i64 0]) ∧ Below w.heap.size w w') (f0 : 0 ≤ f) (m0 : 0 ≤ m) (fm : f + m ≤ (s.size : Int)) (hz : s.size ≤ 254) :
    Calls Tryz.prog 59 #[.int .i64 hw, .slice (some ⟨g, 0, none⟩) 3 cap] w fun e w' => e = .returned (.tuple #[V 19 0 (s.extract f.toNat (f + m).toNat), .int .i64 0]) ∧ Below w.heap.size w w' := by
  have PC : Hid _ := PC
  have zg : g < w.heap.size := block_lt_of_cell ha.c0
  have a2 := ha.c2
  have HA : Hid _ := ha
  clear ha
  have sz : Hid ((s.extract f.toNat (f + m).toNat).size ≤ 254) := by show (s.extract f.toNat (f + m).toNat).size ≤ 254; simp; omega
  have F0 : Hid _ := f0
  have M0 : Hid _ := m0
  have FM : Hid _ := fm
  clear f0 m0 fm hz
  go_enter Tryz.func59, Tryz.ntmps59
  go_wp2_with fail
  have gr : Hid (Below w.heap.size w (w.alloc (.cells #[.int .u8 0, .int .u64 0, .string ⟨#[]⟩] 27))) := (Below.refl _ _).alloc (Nat.le_refl _) _
  have rb : Hid (VB (w.alloc (.cells #[.int .u8 0, .int .u64 0, .string ⟨#[]⟩] 27)) w.heap.size 0 0 E0) := ⟨by simp, by simp, by simp, by simp, by simp, by simp⟩
  have AA := HA.out.below gr.out
  have zW : w.heap.size < (w.alloc (.cells #[.int .u8 0, .int .u64 0, .string ⟨#[]⟩] 27)).heap.size := by simp
  generalize (w.alloc (.cells #[.int .u8 0, .int .u64 0, .string ⟨#[]⟩] 27)) = W at *
  have d0 : ∀ x : Sub W, x.w.cell? ⟨g, 0, none⟩ = some _ := fun x => (x.h.cell (p := ⟨g, 0, none⟩) (Nat.lt_trans zg zW)).trans AA.c0
  have d1 : ∀ x : Sub W, x.w.cell? ⟨g, 1, none⟩ = some _ := fun x => (x.h.cell (p := ⟨g, 1, none⟩) (Nat.lt_trans zg zW)).trans AA.c1
  have d2 : ∀ x : Sub W, x.w.cell? ⟨g, 2, none⟩ = some _ := fun x => (x.h.cell (p := ⟨g, 2, none⟩) (Nat.lt_trans zg zW)).trans AA.c2
  have d3 : ∀ x : Sub W, x.w.cell? ⟨g, 3, none⟩ = some _ := fun x => (x.h.cell (p := ⟨g, 3, none⟩) (Nat.lt_trans zg zW)).trans AA.c3
  have d4 : ∀ x : Sub W, x.w.cell? ⟨g, 4, none⟩ = some _ := fun x => (x.h.cell (p := ⟨g, 4, none⟩) (Nat.lt_trans zg zW)).trans AA.c4
  have d5 : ∀ x : Sub W, x.w.cell? ⟨g, 5, none⟩ = some _ := fun x => (x.h.cell (p := ⟨g, 5, none⟩) (Nat.lt_trans zg zW)).trans AA.c5
  have d6 : ∀ x : Sub W, x.w.cell? ⟨g, 6, none⟩ = some _ := fun x => (x.h.cell (p := ⟨g, 6, none⟩) (Nat.lt_trans zg zW)).trans AA.c6
  have d7 : ∀ x : Sub W, x.w.cell? ⟨g, 7, none⟩ = some _ := fun x => (x.h.cell (p := ⟨g, 7, none⟩) (Nat.lt_trans zg zW)).trans AA.c7
  have d8 : ∀ x : Sub W, x.w.cell? ⟨g, 8, none⟩ = some _ := fun x => (x.h.cell (p := ⟨g, 8, none⟩) (Nat.lt_trans zg zW)).trans AA.c8
  clear AA HA a2
  refine wp_region_sub2 (by kernel_rfl) (by kernel_rfl) ?_
  intro cx
  clear cx
  repeat (first | go_big_quiet_skip | (go_big_quiet_want; go_big_quiet_op; first | go_big_quiet_on | (refine ⟨_, fun _ => rfl, ?_⟩; go_big_quiet_on) | go_big_quiet_call (first | (go_at_call 110; exact calls_sub (PC.out _)))))
  refine wpQuiet_nil ?_
  rintro _ ⟨y, rfl⟩
  have BY : Hid (Below w.heap.size w y.w) := gr.out.trans (y.h.mono (Nat.le_of_lt zW))
  have RB : Hid (VB y.w w.heap.size 0 0 E0) := rb.out.below y.h
  generalize y.w = w5 at *
  clear d0 d1 d2 d3 d4 d5 d6 d7 d8
  have f0 := F0.out
  have m0 := M0.out
  have fm := FM.out
  have f1 : f ≤ (s.size : Int) := by omega
  have f2 : 0 ≤ f + m := by omega
  have f3 : f ≤ f + m := by omega
  go_wp2_with (first | (go_at_call 109; refine (Text_yes _ _ sz.out).mono ?_; rintro e w6 ⟨rfl, hb6⟩; have B6 : Hid (Below w.heap.size w w6) := BY.out.trans (hb6.mono BY.out.size); obtain ⟨r0, r1, r2, r3, r4, r5⟩ := RB.out.below hb6; clear hb6))
  exact bodyPost_ret (v := .tuple #[V 19 0 (s.extract f.toNat (f + m).toNat), .int .i64 0]) (by simp [results, Tryz.results59, go_sem, r0, r1, r2]) rfl ⟨rfl, ((B6.out.setCell (by simp) _).setCell (by simp) _).setCell (by simp) _⟩
set_option maxRecDepth 20000 in
set_option maxHeartbeats 2000000 in
theorem remove_no (ha : A3 w g ⟨k, b, s⟩ ⟨kd, d, r⟩ ⟨kc, c, t⟩) (PC : ∀ w, Calls Tryz.prog 110 #[.string s, V kd d r, V kc c t] w fun e w' => e = .returned (.tuple #[.int .i64 0, .int .i64 0, .int .i64 3]) ∧ Below w.heap.size w w') :
    Calls Tryz.prog 64 #[.int .i64 hw, .slice (some ⟨g, 0, none⟩) 3 cap] w fun e w' => e = .returned (.tuple #[V 0 0 E0, .int .i64 3]) ∧ Below w.heap.size w w' := by
  have PC : Hid _ := PC
  have zg : g < w.heap.size := block_lt_of_cell ha.c0
  have a2 := ha.c2
  have HA : Hid _ := ha
  clear ha
  go_enter Tryz.func64, Tryz.ntmps64
  go_wp2_with fail
  have gr : Hid (Below w.heap.size w (w.alloc (.cells #[.int .u8 0, .int .u64 0, .string ⟨#[]⟩] 27))) := (Below.refl _ _).alloc (Nat.le_refl _) _
  have rb : Hid (VB (w.alloc (.cells #[.int .u8 0, .int .u64 0, .string ⟨#[]⟩] 27)) w.heap.size 0 0 E0) := ⟨by simp, by simp, by simp, by simp, by simp, by simp⟩
  have AA := HA.out.below gr.out
  have zW : w.heap.size < (w.alloc (.cells #[.int .u8 0, .int .u64 0, .string ⟨#[]⟩] 27)).heap.size := by simp
  generalize (w.alloc (.cells #[.int .u8 0, .int .u64 0, .string ⟨#[]⟩] 27)) = W at *
  have d0 : ∀ x : Sub W, x.w.cell? ⟨g, 0, none⟩ = some _ := fun x => (x.h.cell (p := ⟨g, 0, none⟩) (Nat.lt_trans zg zW)).trans AA.c0
  have d1 : ∀ x : Sub W, x.w.cell? ⟨g, 1, none⟩ = some _ := fun x => (x.h.cell (p := ⟨g, 1, none⟩) (Nat.lt_trans zg zW)).trans AA.c1
  have d2 : ∀ x : Sub W, x.w.cell? ⟨g, 2, none⟩ = some _ := fun x => (x.h.cell (p := ⟨g, 2, none⟩) (Nat.lt_trans zg zW)).trans AA.c2
  have d3 : ∀ x : Sub W, x.w.cell? ⟨g, 3, none⟩ = some _ := fun x => (x.h.cell (p := ⟨g, 3, none⟩) (Nat.lt_trans zg zW)).trans AA.c3
  have d4 : ∀ x : Sub W, x.w.cell? ⟨g, 4, none⟩ = some _ := fun x => (x.h.cell (p := ⟨g, 4, none⟩) (Nat.lt_trans zg zW)).trans AA.c4
  have d5 : ∀ x : Sub W, x.w.cell? ⟨g, 5, none⟩ = some _ := fun x => (x.h.cell (p := ⟨g, 5, none⟩) (Nat.lt_trans zg zW)).trans AA.c5
  have d6 : ∀ x : Sub W, x.w.cell? ⟨g, 6, none⟩ = some _ := fun x => (x.h.cell (p := ⟨g, 6, none⟩) (Nat.lt_trans zg zW)).trans AA.c6
  have d7 : ∀ x : Sub W, x.w.cell? ⟨g, 7, none⟩ = some _ := fun x => (x.h.cell (p := ⟨g, 7, none⟩) (Nat.lt_trans zg zW)).trans AA.c7
  have d8 : ∀ x : Sub W, x.w.cell? ⟨g, 8, none⟩ = some _ := fun x => (x.h.cell (p := ⟨g, 8, none⟩) (Nat.lt_trans zg zW)).trans AA.c8
  clear AA HA a2
  refine wp_region_sub2 (by kernel_rfl) (by kernel_rfl) ?_
  intro cx
  clear cx
  repeat (first | go_big_quiet_skip | (go_big_quiet_want; go_big_quiet_op; first | go_big_quiet_on | (refine ⟨_, fun _ => rfl, ?_⟩; go_big_quiet_on) | go_big_quiet_call (first | (go_at_call 110; exact calls_sub (PC.out _)))))
  refine wpQuiet_nil ?_
  rintro _ ⟨y, rfl⟩
  have BY : Hid (Below w.heap.size w y.w) := gr.out.trans (y.h.mono (Nat.le_of_lt zW))
  have RB : Hid (VB y.w w.heap.size 0 0 E0) := rb.out.below y.h
  generalize y.w = w5 at *
  clear d0 d1 d2 d3 d4 d5 d6 d7 d8
  obtain ⟨r0, r1, r2, r3, r4, r5⟩ := RB.out
  go_wp2
  exact bodyPost_ret (v := .tuple #[V 0 0 E0, .int .i64 3]) (by simp [results, Tryz.results64, go_sem, r0, r1, r2]) rfl ⟨rfl, ((BY.out.setCell (by simp) _).setCell (by simp) _).setCell (by simp) _⟩
set_option maxRecDepth 20000 in
set_option maxHeartbeats 2000000 in
theorem remove_yes (ha : A3 w g ⟨k, b, s⟩ ⟨kd, d, r⟩ ⟨kc, c, t⟩) (f m : Int) (PC : ∀ w, Calls Tryz.prog 110 #[.string s, V kd d r, V kc c t] w fun e w' => e = .returned (.tuple #[.int .i64 f, .int .i64 (f + m), .int .i64 0]) ∧ Below w.heap.size w w') (f0 : 0 ≤ f) (m0 : 0 ≤ m) (fm : f + m ≤ (s.size : Int)) (hz : s.size ≤ 254) :
    Calls Tryz.prog 64 #[.int .i64 hw, .slice (some ⟨g, 0, none⟩) 3 cap] w fun e w' => e = .returned (.tuple #[V 19 0 (s.extract 0 f.toNat ++ s.extract (f + m).toNat s.size), .int .i64 0]) ∧ Below w.heap.size w w' := by
  have PC : Hid _ := PC
  have zg : g < w.heap.size := block_lt_of_cell ha.c0
  have a2 := ha.c2
  have HA : Hid _ := ha
  clear ha
  have sz : Hid ((s.extract 0 f.toNat ++ s.extract (f + m).toNat s.size).size ≤ 254) := by show (s.extract 0 f.toNat ++ s.extract (f + m).toNat s.size).size ≤ 254; simp [ByteArray.size_append]; omega
  have k1 : ∀ w, (Op.stringOp .add (s.extract 0 f.toNat) (s.extract (f + m).toNat s.size)).run Tryz.prog w = .ok (.string (s.extract 0 f.toNat ++ s.extract (f + m).toNat s.size)) w := fun w => run_string_add_sum w _ _ (by simp; omega)
  have F0 : Hid _ := f0
  have M0 : Hid _ := m0
  have FM : Hid _ := fm
  clear f0 m0 fm hz
  go_enter Tryz.func64, Tryz.ntmps64
  go_wp2_with fail
  have gr : Hid (Below w.heap.size w (w.alloc (.cells #[.int .u8 0, .int .u64 0, .string ⟨#[]⟩] 27))) := (Below.refl _ _).alloc (Nat.le_refl _) _
  have rb : Hid (VB (w.alloc (.cells #[.int .u8 0, .int .u64 0, .string ⟨#[]⟩] 27)) w.heap.size 0 0 E0) := ⟨by simp, by simp, by simp, by simp, by simp, by simp⟩
  have AA := HA.out.below gr.out
  have zW : w.heap.size < (w.alloc (.cells #[.int .u8 0, .int .u64 0, .string ⟨#[]⟩] 27)).heap.size := by simp
  generalize (w.alloc (.cells #[.int .u8 0, .int .u64 0, .string ⟨#[]⟩] 27)) = W at *
  have d0 : ∀ x : Sub W, x.w.cell? ⟨g, 0, none⟩ = some _ := fun x => (x.h.cell (p := ⟨g, 0, none⟩) (Nat.lt_trans zg zW)).trans AA.c0
  have d1 : ∀ x : Sub W, x.w.cell? ⟨g, 1, none⟩ = some _ := fun x => (x.h.cell (p := ⟨g, 1, none⟩) (Nat.lt_trans zg zW)).trans AA.c1
  have d2 : ∀ x : Sub W, x.w.cell? ⟨g, 2, none⟩ = some _ := fun x => (x.h.cell (p := ⟨g, 2, none⟩) (Nat.lt_trans zg zW)).trans AA.c2
  have d3 : ∀ x : Sub W, x.w.cell? ⟨g, 3, none⟩ = some _ := fun x => (x.h.cell (p := ⟨g, 3, none⟩) (Nat.lt_trans zg zW)).trans AA.c3
  have d4 : ∀ x : Sub W, x.w.cell? ⟨g, 4, none⟩ = some _ := fun x => (x.h.cell (p := ⟨g, 4, none⟩) (Nat.lt_trans zg zW)).trans AA.c4
  have d5 : ∀ x : Sub W, x.w.cell? ⟨g, 5, none⟩ = some _ := fun x => (x.h.cell (p := ⟨g, 5, none⟩) (Nat.lt_trans zg zW)).trans AA.c5
  have d6 : ∀ x : Sub W, x.w.cell? ⟨g, 6, none⟩ = some _ := fun x => (x.h.cell (p := ⟨g, 6, none⟩) (Nat.lt_trans zg zW)).trans AA.c6
  have d7 : ∀ x : Sub W, x.w.cell? ⟨g, 7, none⟩ = some _ := fun x => (x.h.cell (p := ⟨g, 7, none⟩) (Nat.lt_trans zg zW)).trans AA.c7
  have d8 : ∀ x : Sub W, x.w.cell? ⟨g, 8, none⟩ = some _ := fun x => (x.h.cell (p := ⟨g, 8, none⟩) (Nat.lt_trans zg zW)).trans AA.c8
  clear AA HA a2
  refine wp_region_sub2 (by kernel_rfl) (by kernel_rfl) ?_
  intro cx
  clear cx
  repeat (first | go_big_quiet_skip | (go_big_quiet_want; go_big_quiet_op; first | go_big_quiet_on | (refine ⟨_, fun _ => rfl, ?_⟩; go_big_quiet_on) | go_big_quiet_call (first | (go_at_call 110; exact calls_sub (PC.out _)))))
  refine wpQuiet_nil ?_
  rintro _ ⟨y, rfl⟩
  have BY : Hid (Below w.heap.size w y.w) := gr.out.trans (y.h.mono (Nat.le_of_lt zW))
  have RB : Hid (VB y.w w.heap.size 0 0 E0) := rb.out.below y.h
  generalize y.w = w5 at *
  clear d0 d1 d2 d3 d4 d5 d6 d7 d8
  have f0 := F0.out
  have m0 := M0.out
  have fm := FM.out
  have f1 : f ≤ (s.size : Int) := by omega
  have f2 : 0 ≤ f + m := by omega
  have f3 : f ≤ f + m := by omega
  go_wp2_with fail
  go_region_held3 (fun _ => True) (trivial) (first | (go_at_call 109; refine (Text_yes _ _ sz.out).mono ?_; rintro e w6 ⟨rfl, hb6⟩; have B6 : Hid (Below w.heap.size w w6) := BY.out.drew.trans (hb6.mono BY.out.size); obtain ⟨r0, r1, r2, r3, r4, r5⟩ := (RB.out.below (Below.refl _ _).drew).below hb6; clear hb6))
  go_wp2
  exact bodyPost_ret (v := .tuple #[V 19 0 (s.extract 0 f.toNat ++ s.extract (f + m).toNat s.size), .int .i64 0]) (by simp [results, Tryz.results64, go_sem, r0, r1, r2]) rfl ⟨rfl, ((B6.out.setCell (by simp) _).setCell (by simp) _).setCell (by simp) _⟩
end
end Go.Proofs.YtpaibmganlaaeaaGreatDoor
namespace Go.Proofs.YtpaibmganlaaeaaGreatDoor
set_option linter.unusedVariables false
open Go.RowKit
section
variable (g cap : Nat) (hw : Int) (k b kd d kc c kq q_ : Int) (s r t u : ByteArray) (w : World)
set_option maxRecDepth 20000 in
set_option maxHeartbeats 2000000 in
theorem insert_no (p : Int) (ha : A3 w g ⟨k, b, s⟩ ⟨kd, d, r⟩ ⟨kc, c, t⟩) (W_ : ∀ w, Calls Tryz.prog 98 #[V kc c t] w fun e w' => e = .returned (.int .i64 p) ∧ Below w.heap.size w w') (h : p < 0 ∨ (s.size : Int) < p) :
    Calls Tryz.prog 63 #[.int .i64 hw, .slice (some ⟨g, 0, none⟩) 3 cap] w fun e w' => e = .returned (.tuple #[V 0 0 E0, .int .i64 3]) ∧ Below w.heap.size w w' := by
  have W_ : Hid _ := W_
  have zg : g < w.heap.size := block_lt_of_cell ha.c0
  have HA : Hid _ := ha
  clear ha
  have HH : Hid _ := h
  clear h
  go_enter Tryz.func63, Tryz.ntmps63
  go_wp2_with fail
  have gr : Hid (Below w.heap.size w (w.alloc (.cells #[.int .u8 0, .int .u64 0, .string ⟨#[]⟩] 27))) := (Below.refl _ _).alloc (Nat.le_refl _) _
  have rb : Hid (VB (w.alloc (.cells #[.int .u8 0, .int .u64 0, .string ⟨#[]⟩] 27)) w.heap.size 0 0 E0) := ⟨by simp, by simp, by simp, by simp, by simp, by simp⟩
  have A_ : Hid _ := HA.out.below gr.out
  have zW : w.heap.size < (w.alloc (.cells #[.int .u8 0, .int .u64 0, .string ⟨#[]⟩] 27)).heap.size := by simp
  generalize (w.alloc (.cells #[.int .u8 0, .int .u64 0, .string ⟨#[]⟩] 27)) = W at *
  have zx := Nat.lt_trans zg zW
  have d0 : ∀ x : Sub W, x.w.cell? ⟨g, 0, none⟩ = some _ := fun x => (x.h.cell (p := ⟨g, 0, none⟩) zx).trans A_.out.c0
  have d1 : ∀ x : Sub W, x.w.cell? ⟨g, 1, none⟩ = some _ := fun x => (x.h.cell (p := ⟨g, 1, none⟩) zx).trans A_.out.c1
  have d2 : ∀ x : Sub W, x.w.cell? ⟨g, 2, none⟩ = some _ := fun x => (x.h.cell (p := ⟨g, 2, none⟩) zx).trans A_.out.c2
  have d3 : ∀ x : Sub W, x.w.cell? ⟨g, 3, none⟩ = some _ := fun x => (x.h.cell (p := ⟨g, 3, none⟩) zx).trans A_.out.c3
  have d4 : ∀ x : Sub W, x.w.cell? ⟨g, 4, none⟩ = some _ := fun x => (x.h.cell (p := ⟨g, 4, none⟩) zx).trans A_.out.c4
  have d5 : ∀ x : Sub W, x.w.cell? ⟨g, 5, none⟩ = some _ := fun x => (x.h.cell (p := ⟨g, 5, none⟩) zx).trans A_.out.c5
  have d6 : ∀ x : Sub W, x.w.cell? ⟨g, 6, none⟩ = some _ := fun x => (x.h.cell (p := ⟨g, 6, none⟩) zx).trans A_.out.c6
  have d7 : ∀ x : Sub W, x.w.cell? ⟨g, 7, none⟩ = some _ := fun x => (x.h.cell (p := ⟨g, 7, none⟩) zx).trans A_.out.c7
  have d8 : ∀ x : Sub W, x.w.cell? ⟨g, 8, none⟩ = some _ := fun x => (x.h.cell (p := ⟨g, 8, none⟩) zx).trans A_.out.c8
  refine wp_region_sub2 (by kernel_rfl) (by kernel_rfl) ?_
  intro cx
  clear cx
  repeat (first | go_big_quiet_skip | (go_big_quiet_want; go_big_quiet_op; first | go_big_quiet_on | (refine ⟨_, fun _ => rfl, ?_⟩; go_big_quiet_on) | go_big_quiet_call (first | (go_at_call 98; exact calls_sub (W_.out _)))))
  refine wpQuiet_nil ?_
  rintro _ ⟨y, rfl⟩
  have BY : Hid (Below w.heap.size w y.w) := gr.out.trans (y.h.mono (Nat.le_of_lt zW))
  have RB : Hid (VB y.w w.heap.size 0 0 E0) := rb.out.below y.h
  generalize y.w = w5 at *
  clear d0 d1 d2 d3 d4 d5 d6 d7 d8 y
  obtain ⟨r0, r1, r2, r3, r4, r5⟩ := RB.out
  by_cases q : p < 0
  · go_wp2
    exact bodyPost_ret (v := .tuple #[V 0 0 E0, .int .i64 3]) (by simp [results, Tryz.results63, go_sem, r0, r1, r2]) rfl ⟨rfl, ((BY.out.setCell (by simp) _).setCell (by simp) _).setCell (by simp) _⟩
  · have h2 : (s.size : Int) < p := by have := HH.out; omega
    go_wp2
    exact bodyPost_ret (v := .tuple #[V 0 0 E0, .int .i64 3]) (by simp [results, Tryz.results63, go_sem, r0, r1, r2]) rfl ⟨rfl, ((BY.out.setCell (by simp) _).setCell (by simp) _).setCell (by simp) _⟩
set_option maxRecDepth 20000 in
set_option maxHeartbeats 2000000 in
theorem insert_yes (p : Int) (ha : A3 w g ⟨k, b, s⟩ ⟨kd, d, r⟩ ⟨kc, c, t⟩) (W_ : ∀ w, Calls Tryz.prog 98 #[V kc c t] w fun e w' => e = .returned (.int .i64 p) ∧ Below w.heap.size w w') (p0 : 0 ≤ p) (p1 : p ≤ (s.size : Int)) (hz : s.size ≤ 254) (hr : r.size ≤ 254) (hsum :  s.size + r.size ≤ 254) :
    Calls Tryz.prog 63 #[.int .i64 hw, .slice (some ⟨g, 0, none⟩) 3 cap] w fun e w' => e = .returned (.tuple #[V 19 0 (s.extract 0 p.toNat ++ r ++ s.extract p.toNat s.size), .int .i64 0]) ∧ Below w.heap.size w w' := by
  have W_ : Hid _ := W_
  have zg : g < w.heap.size := block_lt_of_cell ha.c0
  have HA : Hid _ := ha
  clear ha
  have za : Hid ((s.extract 0 p.toNat ++ r ++ s.extract p.toNat s.size).size = s.size + r.size) := by show (s.extract 0 p.toNat ++ r ++ s.extract p.toNat s.size).size = s.size + r.size; simp [ByteArray.size_append]; omega
  have k1 : ∀ w, (Op.stringOp .add (s.extract 0 p.toNat) r).run Tryz.prog w = .ok (.string (s.extract 0 p.toNat ++ r)) w := fun w => run_string_add_sum w _ _ (by simp; omega)
  have k2 : ∀ w, (Op.stringOp .add (s.extract 0 p.toNat ++ r) (s.extract p.toNat s.size)).run Tryz.prog w = .ok (.string (s.extract 0 p.toNat ++ r ++ s.extract p.toNat s.size)) w := fun w => run_string_add_sum w _ _ (by simp [ByteArray.size_append]; omega)
  have P0 : Hid _ := p0
  have P1 : Hid _ := p1
  have HZ : Hid _ := And.intro hz (And.intro hr hsum)
  clear p0 p1 hz hr hsum
  go_enter Tryz.func63, Tryz.ntmps63
  go_wp2_with fail
  have gr : Hid (Below w.heap.size w (w.alloc (.cells #[.int .u8 0, .int .u64 0, .string ⟨#[]⟩] 27))) := (Below.refl _ _).alloc (Nat.le_refl _) _
  have rb : Hid (VB (w.alloc (.cells #[.int .u8 0, .int .u64 0, .string ⟨#[]⟩] 27)) w.heap.size 0 0 E0) := ⟨by simp, by simp, by simp, by simp, by simp, by simp⟩
  have A_ : Hid _ := HA.out.below gr.out
  have zW : w.heap.size < (w.alloc (.cells #[.int .u8 0, .int .u64 0, .string ⟨#[]⟩] 27)).heap.size := by simp
  generalize (w.alloc (.cells #[.int .u8 0, .int .u64 0, .string ⟨#[]⟩] 27)) = W at *
  have zx := Nat.lt_trans zg zW
  have d0 : ∀ x : Sub W, x.w.cell? ⟨g, 0, none⟩ = some _ := fun x => (x.h.cell (p := ⟨g, 0, none⟩) zx).trans A_.out.c0
  have d1 : ∀ x : Sub W, x.w.cell? ⟨g, 1, none⟩ = some _ := fun x => (x.h.cell (p := ⟨g, 1, none⟩) zx).trans A_.out.c1
  have d2 : ∀ x : Sub W, x.w.cell? ⟨g, 2, none⟩ = some _ := fun x => (x.h.cell (p := ⟨g, 2, none⟩) zx).trans A_.out.c2
  have d3 : ∀ x : Sub W, x.w.cell? ⟨g, 3, none⟩ = some _ := fun x => (x.h.cell (p := ⟨g, 3, none⟩) zx).trans A_.out.c3
  have d4 : ∀ x : Sub W, x.w.cell? ⟨g, 4, none⟩ = some _ := fun x => (x.h.cell (p := ⟨g, 4, none⟩) zx).trans A_.out.c4
  have d5 : ∀ x : Sub W, x.w.cell? ⟨g, 5, none⟩ = some _ := fun x => (x.h.cell (p := ⟨g, 5, none⟩) zx).trans A_.out.c5
  have d6 : ∀ x : Sub W, x.w.cell? ⟨g, 6, none⟩ = some _ := fun x => (x.h.cell (p := ⟨g, 6, none⟩) zx).trans A_.out.c6
  have d7 : ∀ x : Sub W, x.w.cell? ⟨g, 7, none⟩ = some _ := fun x => (x.h.cell (p := ⟨g, 7, none⟩) zx).trans A_.out.c7
  have d8 : ∀ x : Sub W, x.w.cell? ⟨g, 8, none⟩ = some _ := fun x => (x.h.cell (p := ⟨g, 8, none⟩) zx).trans A_.out.c8
  refine wp_region_sub2 (by kernel_rfl) (by kernel_rfl) ?_
  intro cx
  clear cx
  repeat (first | go_big_quiet_skip | (go_big_quiet_want; go_big_quiet_op; first | go_big_quiet_on | (refine ⟨_, fun _ => rfl, ?_⟩; go_big_quiet_on) | go_big_quiet_call (first | (go_at_call 98; exact calls_sub (W_.out _)))))
  refine wpQuiet_nil ?_
  rintro _ ⟨y, rfl⟩
  have BY : Hid (Below w.heap.size w y.w) := gr.out.trans (y.h.mono (Nat.le_of_lt zW))
  have RB : Hid (VB y.w w.heap.size 0 0 E0) := rb.out.below y.h
  generalize y.w = w5 at *
  clear d0 d1 d2 d3 d4 d5 d6 d7 d8 y
  have p0 := P0.out
  have p1 := P1.out
  go_wp2_with fail
  go_region_held3 (fun _ => True) (trivial) (first | (go_at_call 109; refine (Text_yes _ _ (by rw [za.out]; exact HZ.out.2.2)).mono ?_; rintro e w6 ⟨rfl, hb6⟩; have B6 : Hid (Below w.heap.size w w6) := BY.out.drew.trans (hb6.mono BY.out.size); obtain ⟨r0, r1, r2, r3, r4, r5⟩ := (RB.out.below (Below.refl _ _).drew).below hb6; clear hb6))
  go_wp2
  exact bodyPost_ret (v := .tuple #[V 19 0 (s.extract 0 p.toNat ++ r ++ s.extract p.toNat s.size), .int .i64 0]) (by simp [results, Tryz.results63, go_sem, r0, r1, r2]) rfl ⟨rfl, ((B6.out.setCell (by simp) _).setCell (by simp) _).setCell (by simp) _⟩
set_option maxRecDepth 20000 in
set_option maxHeartbeats 2000000 in
theorem insert_big (p : Int) (ha : A3 w g ⟨k, b, s⟩ ⟨kd, d, r⟩ ⟨kc, c, t⟩) (W_ : ∀ w, Calls Tryz.prog 98 #[V kc c t] w fun e w' => e = .returned (.int .i64 p) ∧ Below w.heap.size w w') (p0 : 0 ≤ p) (p1 : p ≤ (s.size : Int)) (hz : s.size ≤ 254) (hr : r.size ≤ 254) (hsum : ¬ s.size + r.size ≤ 254) :
    Calls Tryz.prog 63 #[.int .i64 hw, .slice (some ⟨g, 0, none⟩) 3 cap] w fun e w' => e = .returned (.tuple #[V 0 0 E0, .int .i64 5]) ∧ Below w.heap.size w w' := by
  have W_ : Hid _ := W_
  have zg : g < w.heap.size := block_lt_of_cell ha.c0
  have HA : Hid _ := ha
  clear ha
  have za : Hid ((s.extract 0 p.toNat ++ r ++ s.extract p.toNat s.size).size = s.size + r.size) := by show (s.extract 0 p.toNat ++ r ++ s.extract p.toNat s.size).size = s.size + r.size; simp [ByteArray.size_append]; omega
  have k1 : ∀ w, (Op.stringOp .add (s.extract 0 p.toNat) r).run Tryz.prog w = .ok (.string (s.extract 0 p.toNat ++ r)) w := fun w => run_string_add_sum w _ _ (by simp; omega)
  have k2 : ∀ w, (Op.stringOp .add (s.extract 0 p.toNat ++ r) (s.extract p.toNat s.size)).run Tryz.prog w = .ok (.string (s.extract 0 p.toNat ++ r ++ s.extract p.toNat s.size)) w := fun w => run_string_add_sum w _ _ (by simp [ByteArray.size_append]; omega)
  have P0 : Hid _ := p0
  have P1 : Hid _ := p1
  have HZ : Hid _ := And.intro hz (And.intro hr hsum)
  clear p0 p1 hz hr hsum
  go_enter Tryz.func63, Tryz.ntmps63
  go_wp2_with fail
  have gr : Hid (Below w.heap.size w (w.alloc (.cells #[.int .u8 0, .int .u64 0, .string ⟨#[]⟩] 27))) := (Below.refl _ _).alloc (Nat.le_refl _) _
  have rb : Hid (VB (w.alloc (.cells #[.int .u8 0, .int .u64 0, .string ⟨#[]⟩] 27)) w.heap.size 0 0 E0) := ⟨by simp, by simp, by simp, by simp, by simp, by simp⟩
  have A_ : Hid _ := HA.out.below gr.out
  have zW : w.heap.size < (w.alloc (.cells #[.int .u8 0, .int .u64 0, .string ⟨#[]⟩] 27)).heap.size := by simp
  generalize (w.alloc (.cells #[.int .u8 0, .int .u64 0, .string ⟨#[]⟩] 27)) = W at *
  have zx := Nat.lt_trans zg zW
  have d0 : ∀ x : Sub W, x.w.cell? ⟨g, 0, none⟩ = some _ := fun x => (x.h.cell (p := ⟨g, 0, none⟩) zx).trans A_.out.c0
  have d1 : ∀ x : Sub W, x.w.cell? ⟨g, 1, none⟩ = some _ := fun x => (x.h.cell (p := ⟨g, 1, none⟩) zx).trans A_.out.c1
  have d2 : ∀ x : Sub W, x.w.cell? ⟨g, 2, none⟩ = some _ := fun x => (x.h.cell (p := ⟨g, 2, none⟩) zx).trans A_.out.c2
  have d3 : ∀ x : Sub W, x.w.cell? ⟨g, 3, none⟩ = some _ := fun x => (x.h.cell (p := ⟨g, 3, none⟩) zx).trans A_.out.c3
  have d4 : ∀ x : Sub W, x.w.cell? ⟨g, 4, none⟩ = some _ := fun x => (x.h.cell (p := ⟨g, 4, none⟩) zx).trans A_.out.c4
  have d5 : ∀ x : Sub W, x.w.cell? ⟨g, 5, none⟩ = some _ := fun x => (x.h.cell (p := ⟨g, 5, none⟩) zx).trans A_.out.c5
  have d6 : ∀ x : Sub W, x.w.cell? ⟨g, 6, none⟩ = some _ := fun x => (x.h.cell (p := ⟨g, 6, none⟩) zx).trans A_.out.c6
  have d7 : ∀ x : Sub W, x.w.cell? ⟨g, 7, none⟩ = some _ := fun x => (x.h.cell (p := ⟨g, 7, none⟩) zx).trans A_.out.c7
  have d8 : ∀ x : Sub W, x.w.cell? ⟨g, 8, none⟩ = some _ := fun x => (x.h.cell (p := ⟨g, 8, none⟩) zx).trans A_.out.c8
  refine wp_region_sub2 (by kernel_rfl) (by kernel_rfl) ?_
  intro cx
  clear cx
  repeat (first | go_big_quiet_skip | (go_big_quiet_want; go_big_quiet_op; first | go_big_quiet_on | (refine ⟨_, fun _ => rfl, ?_⟩; go_big_quiet_on) | go_big_quiet_call (first | (go_at_call 98; exact calls_sub (W_.out _)))))
  refine wpQuiet_nil ?_
  rintro _ ⟨y, rfl⟩
  have BY : Hid (Below w.heap.size w y.w) := gr.out.trans (y.h.mono (Nat.le_of_lt zW))
  have RB : Hid (VB y.w w.heap.size 0 0 E0) := rb.out.below y.h
  generalize y.w = w5 at *
  clear d0 d1 d2 d3 d4 d5 d6 d7 d8 y
  have p0 := P0.out
  have p1 := P1.out
  go_wp2_with fail
  go_region_held3 (fun _ => True) (trivial) (first | (go_at_call 109; refine (Text_no _ _ (by rw [za.out]; exact HZ.out.2.2) (by have a := HZ.out; rw [za.out]; unfold maxLen; omega)).mono ?_; rintro e w6 ⟨rfl, hb6⟩; have B6 : Hid (Below w.heap.size w w6) := BY.out.drew.trans (hb6.mono BY.out.size); obtain ⟨r0, r1, r2, r3, r4, r5⟩ := (RB.out.below (Below.refl _ _).drew).below hb6; clear hb6))
  go_wp2
  exact bodyPost_ret (v := .tuple #[V 0 0 E0, .int .i64 5]) (by simp [results, Tryz.results63, go_sem, r0, r1, r2]) rfl ⟨rfl, ((B6.out.setCell (by simp) _).setCell (by simp) _).setCell (by simp) _⟩
end
end Go.Proofs.YtpaibmganlaaeaaGreatDoor
namespace Go.Proofs.YtpaibmganlaaeaaGreatDoor
set_option linter.unusedVariables false
open Go.RowKit
section
variable (g cap : Nat) (hw : Int) (k b kd d kc c kq q_ : Int) (s r t u : ByteArray) (w : World)
set_option maxRecDepth 20000 in
set_option maxHeartbeats 4000000 in
theorem replace_no (ha : A4 w g ⟨k, b, s⟩ ⟨kd, d, r⟩ ⟨kc, c, t⟩ ⟨kq, q_, u⟩)  (PC : ∀ w, Calls Tryz.prog 110 #[.string s, V kc c t, V kq q_ u] w fun e w' => e = .returned (.tuple #[.int .i64 0, .int .i64 0, .int .i64 3]) ∧ Below w.heap.size w w') :
    Calls Tryz.prog 65 #[.int .i64 hw, .slice (some ⟨g, 0, none⟩) 4 cap] w fun e w' => e = .returned (.tuple #[V 0 0 E0, .int .i64 3]) ∧ Below w.heap.size w w' := by
  have PC : Hid _ := PC
  have zg : g < w.heap.size := block_lt_of_cell ha.a.c0
  have HA : Hid _ := ha
  clear ha
  go_enter Tryz.func65, Tryz.ntmps65
  go_wp2_with fail
  have gr : Hid (Below w.heap.size w (w.alloc (.cells #[.int .u8 0, .int .u64 0, .string ⟨#[]⟩] 27))) := (Below.refl _ _).alloc (Nat.le_refl _) _
  have rb : Hid (VB (w.alloc (.cells #[.int .u8 0, .int .u64 0, .string ⟨#[]⟩] 27)) w.heap.size 0 0 E0) := ⟨by simp, by simp, by simp, by simp, by simp, by simp⟩
  have A_ : Hid _ := HA.out.below gr.out
  have zW : w.heap.size < (w.alloc (.cells #[.int .u8 0, .int .u64 0, .string ⟨#[]⟩] 27)).heap.size := by simp
  generalize (w.alloc (.cells #[.int .u8 0, .int .u64 0, .string ⟨#[]⟩] 27)) = W at *
  have zx := Nat.lt_trans zg zW
  have d0 : ∀ x : Sub W, x.w.cell? ⟨g, 0, none⟩ = some _ := fun x => (x.h.cell (p := ⟨g, 0, none⟩) zx).trans A_.out.a.c0
  have d1 : ∀ x : Sub W, x.w.cell? ⟨g, 1, none⟩ = some _ := fun x => (x.h.cell (p := ⟨g, 1, none⟩) zx).trans A_.out.a.c1
  have d2 : ∀ x : Sub W, x.w.cell? ⟨g, 2, none⟩ = some _ := fun x => (x.h.cell (p := ⟨g, 2, none⟩) zx).trans A_.out.a.c2
  have d3 : ∀ x : Sub W, x.w.cell? ⟨g, 3, none⟩ = some _ := fun x => (x.h.cell (p := ⟨g, 3, none⟩) zx).trans A_.out.a.c3
  have d4 : ∀ x : Sub W, x.w.cell? ⟨g, 4, none⟩ = some _ := fun x => (x.h.cell (p := ⟨g, 4, none⟩) zx).trans A_.out.a.c4
  have d5 : ∀ x : Sub W, x.w.cell? ⟨g, 5, none⟩ = some _ := fun x => (x.h.cell (p := ⟨g, 5, none⟩) zx).trans A_.out.a.c5
  have d6 : ∀ x : Sub W, x.w.cell? ⟨g, 6, none⟩ = some _ := fun x => (x.h.cell (p := ⟨g, 6, none⟩) zx).trans A_.out.a.c6
  have d7 : ∀ x : Sub W, x.w.cell? ⟨g, 7, none⟩ = some _ := fun x => (x.h.cell (p := ⟨g, 7, none⟩) zx).trans A_.out.a.c7
  have d8 : ∀ x : Sub W, x.w.cell? ⟨g, 8, none⟩ = some _ := fun x => (x.h.cell (p := ⟨g, 8, none⟩) zx).trans A_.out.a.c8
  have d9 : ∀ x : Sub W, x.w.cell? ⟨g, 9, none⟩ = some _ := fun x => (x.h.cell (p := ⟨g, 9, none⟩) zx).trans A_.out.c9
  have d10 : ∀ x : Sub W, x.w.cell? ⟨g, 10, none⟩ = some _ := fun x => (x.h.cell (p := ⟨g, 10, none⟩) zx).trans A_.out.c10
  have d11 : ∀ x : Sub W, x.w.cell? ⟨g, 11, none⟩ = some _ := fun x => (x.h.cell (p := ⟨g, 11, none⟩) zx).trans A_.out.c11
  refine wp_region_sub2 (by kernel_rfl) (by kernel_rfl) ?_
  intro cx
  clear cx
  repeat (first | go_big_quiet_skip | (go_big_quiet_want; go_big_quiet_op; first | go_big_quiet_on | (refine ⟨_, fun _ => rfl, ?_⟩; go_big_quiet_on) | go_big_quiet_call (first | fail)))
  refine wpQuiet_nil ?_
  rintro _ ⟨y, rfl⟩
  have BY : Hid (Below w.heap.size w y.w) := gr.out.trans (y.h.mono (Nat.le_of_lt zW))
  have RB : Hid (VB y.w w.heap.size 0 0 E0) := rb.out.below y.h
  have A5 : Hid _ := A_.out.below y.h
  have z5 : g < y.w.heap.size := Nat.lt_of_lt_of_le zx y.h.size
  generalize y.w = w5 at *
  clear d0 d1 d2 d3 d4 d5 d6 d7 d8 d9 d10 d11 y
  clear zx
  have zx := z5
  go_wp2_with fail
  have d0 : ∀ x : Sub w5, x.w.cell? ⟨g, 0, none⟩ = some _ := fun x => (x.h.cell (p := ⟨g, 0, none⟩) zx).trans A5.out.a.c0
  have d1 : ∀ x : Sub w5, x.w.cell? ⟨g, 1, none⟩ = some _ := fun x => (x.h.cell (p := ⟨g, 1, none⟩) zx).trans A5.out.a.c1
  have d2 : ∀ x : Sub w5, x.w.cell? ⟨g, 2, none⟩ = some _ := fun x => (x.h.cell (p := ⟨g, 2, none⟩) zx).trans A5.out.a.c2
  have d3 : ∀ x : Sub w5, x.w.cell? ⟨g, 3, none⟩ = some _ := fun x => (x.h.cell (p := ⟨g, 3, none⟩) zx).trans A5.out.a.c3
  have d4 : ∀ x : Sub w5, x.w.cell? ⟨g, 4, none⟩ = some _ := fun x => (x.h.cell (p := ⟨g, 4, none⟩) zx).trans A5.out.a.c4
  have d5 : ∀ x : Sub w5, x.w.cell? ⟨g, 5, none⟩ = some _ := fun x => (x.h.cell (p := ⟨g, 5, none⟩) zx).trans A5.out.a.c5
  have d6 : ∀ x : Sub w5, x.w.cell? ⟨g, 6, none⟩ = some _ := fun x => (x.h.cell (p := ⟨g, 6, none⟩) zx).trans A5.out.a.c6
  have d7 : ∀ x : Sub w5, x.w.cell? ⟨g, 7, none⟩ = some _ := fun x => (x.h.cell (p := ⟨g, 7, none⟩) zx).trans A5.out.a.c7
  have d8 : ∀ x : Sub w5, x.w.cell? ⟨g, 8, none⟩ = some _ := fun x => (x.h.cell (p := ⟨g, 8, none⟩) zx).trans A5.out.a.c8
  have d9 : ∀ x : Sub w5, x.w.cell? ⟨g, 9, none⟩ = some _ := fun x => (x.h.cell (p := ⟨g, 9, none⟩) zx).trans A5.out.c9
  have d10 : ∀ x : Sub w5, x.w.cell? ⟨g, 10, none⟩ = some _ := fun x => (x.h.cell (p := ⟨g, 10, none⟩) zx).trans A5.out.c10
  have d11 : ∀ x : Sub w5, x.w.cell? ⟨g, 11, none⟩ = some _ := fun x => (x.h.cell (p := ⟨g, 11, none⟩) zx).trans A5.out.c11
  refine wp_region_sub2 (by kernel_rfl) (by kernel_rfl) ?_
  intro cx
  clear cx
  repeat (first | go_big_quiet_skip | (go_big_quiet_want; go_big_quiet_op; first | go_big_quiet_on | (refine ⟨_, fun _ => rfl, ?_⟩; go_big_quiet_on) | go_big_quiet_call (first | (go_at_call 110; exact calls_sub (PC.out _)))))
  refine wpQuiet_nil ?_
  rintro _ ⟨y, rfl⟩
  have BZ : Hid (Below w.heap.size w y.w) := BY.out.trans (y.h.mono BY.out.size)
  have RZ : Hid (VB y.w w.heap.size 0 0 E0) := RB.out.below y.h
  have A6 : Hid _ := A5.out.below y.h
  have z6 : g < y.w.heap.size := Nat.lt_of_lt_of_le z5 y.h.size
  generalize y.w = w7 at *
  clear d0 d1 d2 d3 d4 d5 d6 d7 d8 d9 d10 d11 y
  obtain ⟨r0, r1, r2, r3, r4, r5⟩ := RZ.out
  go_wp2
  exact bodyPost_ret (v := .tuple #[V 0 0 E0, .int .i64 3]) (by simp [results, Tryz.results65, go_sem, r0, r1, r2]) rfl ⟨rfl, ((BZ.out.setCell (by simp) _).setCell (by simp) _).setCell (by simp) _⟩
set_option maxRecDepth 20000 in
set_option maxHeartbeats 4000000 in
theorem replace_out (ha : A4 w g ⟨k, b, s⟩ ⟨kd, d, r⟩ ⟨kc, c, t⟩ ⟨kq, q_, u⟩) (f m p : Int) (h : (s.size : Int) < p - 1) (pb : p ≤ 9223372036854775807) (W_ : ∀ w, Calls Tryz.prog 98 #[V kq q_ u] w fun e w' => e = .returned (.int .i64 p) ∧ Below w.heap.size w w') (PC : ∀ w, Calls Tryz.prog 110 #[.string s, V kc c t, V kq q_ u] w fun e w' => e = .returned (.tuple #[.int .i64 f, .int .i64 (f + m), .int .i64 0]) ∧ Below w.heap.size w w') :
    Calls Tryz.prog 65 #[.int .i64 hw, .slice (some ⟨g, 0, none⟩) 4 cap] w fun e w' => e = .returned (.tuple #[V 0 0 E0, .int .i64 3]) ∧ Below w.heap.size w w' := by
  have PC : Hid _ := PC
  have zg : g < w.heap.size := block_lt_of_cell ha.a.c0
  have HA : Hid _ := ha
  clear ha
  have W_ : Hid _ := W_
  have HH : Hid _ := h
  have E : Hid ((s.size : Int) < p - 1 → wrap64 (p - 1) = p - 1) := by intro q; unfold wrap64; omega
  clear h pb
  go_enter Tryz.func65, Tryz.ntmps65
  go_wp2_with fail
  have gr : Hid (Below w.heap.size w (w.alloc (.cells #[.int .u8 0, .int .u64 0, .string ⟨#[]⟩] 27))) := (Below.refl _ _).alloc (Nat.le_refl _) _
  have rb : Hid (VB (w.alloc (.cells #[.int .u8 0, .int .u64 0, .string ⟨#[]⟩] 27)) w.heap.size 0 0 E0) := ⟨by simp, by simp, by simp, by simp, by simp, by simp⟩
  have A_ : Hid _ := HA.out.below gr.out
  have zW : w.heap.size < (w.alloc (.cells #[.int .u8 0, .int .u64 0, .string ⟨#[]⟩] 27)).heap.size := by simp
  generalize (w.alloc (.cells #[.int .u8 0, .int .u64 0, .string ⟨#[]⟩] 27)) = W at *
  have zx := Nat.lt_trans zg zW
  have d0 : ∀ x : Sub W, x.w.cell? ⟨g, 0, none⟩ = some _ := fun x => (x.h.cell (p := ⟨g, 0, none⟩) zx).trans A_.out.a.c0
  have d1 : ∀ x : Sub W, x.w.cell? ⟨g, 1, none⟩ = some _ := fun x => (x.h.cell (p := ⟨g, 1, none⟩) zx).trans A_.out.a.c1
  have d2 : ∀ x : Sub W, x.w.cell? ⟨g, 2, none⟩ = some _ := fun x => (x.h.cell (p := ⟨g, 2, none⟩) zx).trans A_.out.a.c2
  have d3 : ∀ x : Sub W, x.w.cell? ⟨g, 3, none⟩ = some _ := fun x => (x.h.cell (p := ⟨g, 3, none⟩) zx).trans A_.out.a.c3
  have d4 : ∀ x : Sub W, x.w.cell? ⟨g, 4, none⟩ = some _ := fun x => (x.h.cell (p := ⟨g, 4, none⟩) zx).trans A_.out.a.c4
  have d5 : ∀ x : Sub W, x.w.cell? ⟨g, 5, none⟩ = some _ := fun x => (x.h.cell (p := ⟨g, 5, none⟩) zx).trans A_.out.a.c5
  have d6 : ∀ x : Sub W, x.w.cell? ⟨g, 6, none⟩ = some _ := fun x => (x.h.cell (p := ⟨g, 6, none⟩) zx).trans A_.out.a.c6
  have d7 : ∀ x : Sub W, x.w.cell? ⟨g, 7, none⟩ = some _ := fun x => (x.h.cell (p := ⟨g, 7, none⟩) zx).trans A_.out.a.c7
  have d8 : ∀ x : Sub W, x.w.cell? ⟨g, 8, none⟩ = some _ := fun x => (x.h.cell (p := ⟨g, 8, none⟩) zx).trans A_.out.a.c8
  have d9 : ∀ x : Sub W, x.w.cell? ⟨g, 9, none⟩ = some _ := fun x => (x.h.cell (p := ⟨g, 9, none⟩) zx).trans A_.out.c9
  have d10 : ∀ x : Sub W, x.w.cell? ⟨g, 10, none⟩ = some _ := fun x => (x.h.cell (p := ⟨g, 10, none⟩) zx).trans A_.out.c10
  have d11 : ∀ x : Sub W, x.w.cell? ⟨g, 11, none⟩ = some _ := fun x => (x.h.cell (p := ⟨g, 11, none⟩) zx).trans A_.out.c11
  refine wp_region_sub2 (by kernel_rfl) (by kernel_rfl) ?_
  intro cx
  clear cx
  repeat (first | go_big_quiet_skip | (go_big_quiet_want; go_big_quiet_op; first | go_big_quiet_on | (refine ⟨_, fun _ => rfl, ?_⟩; go_big_quiet_on) | go_big_quiet_call (first | fail)))
  refine wpQuiet_nil ?_
  rintro _ ⟨y, rfl⟩
  have BY : Hid (Below w.heap.size w y.w) := gr.out.trans (y.h.mono (Nat.le_of_lt zW))
  have RB : Hid (VB y.w w.heap.size 0 0 E0) := rb.out.below y.h
  have A5 : Hid _ := A_.out.below y.h
  have z5 : g < y.w.heap.size := Nat.lt_of_lt_of_le zx y.h.size
  generalize y.w = w5 at *
  clear d0 d1 d2 d3 d4 d5 d6 d7 d8 d9 d10 d11 y
  clear zx
  have zx := z5
  go_wp2_with fail
  have d0 : ∀ x : Sub w5, x.w.cell? ⟨g, 0, none⟩ = some _ := fun x => (x.h.cell (p := ⟨g, 0, none⟩) zx).trans A5.out.a.c0
  have d1 : ∀ x : Sub w5, x.w.cell? ⟨g, 1, none⟩ = some _ := fun x => (x.h.cell (p := ⟨g, 1, none⟩) zx).trans A5.out.a.c1
  have d2 : ∀ x : Sub w5, x.w.cell? ⟨g, 2, none⟩ = some _ := fun x => (x.h.cell (p := ⟨g, 2, none⟩) zx).trans A5.out.a.c2
  have d3 : ∀ x : Sub w5, x.w.cell? ⟨g, 3, none⟩ = some _ := fun x => (x.h.cell (p := ⟨g, 3, none⟩) zx).trans A5.out.a.c3
  have d4 : ∀ x : Sub w5, x.w.cell? ⟨g, 4, none⟩ = some _ := fun x => (x.h.cell (p := ⟨g, 4, none⟩) zx).trans A5.out.a.c4
  have d5 : ∀ x : Sub w5, x.w.cell? ⟨g, 5, none⟩ = some _ := fun x => (x.h.cell (p := ⟨g, 5, none⟩) zx).trans A5.out.a.c5
  have d6 : ∀ x : Sub w5, x.w.cell? ⟨g, 6, none⟩ = some _ := fun x => (x.h.cell (p := ⟨g, 6, none⟩) zx).trans A5.out.a.c6
  have d7 : ∀ x : Sub w5, x.w.cell? ⟨g, 7, none⟩ = some _ := fun x => (x.h.cell (p := ⟨g, 7, none⟩) zx).trans A5.out.a.c7
  have d8 : ∀ x : Sub w5, x.w.cell? ⟨g, 8, none⟩ = some _ := fun x => (x.h.cell (p := ⟨g, 8, none⟩) zx).trans A5.out.a.c8
  have d9 : ∀ x : Sub w5, x.w.cell? ⟨g, 9, none⟩ = some _ := fun x => (x.h.cell (p := ⟨g, 9, none⟩) zx).trans A5.out.c9
  have d10 : ∀ x : Sub w5, x.w.cell? ⟨g, 10, none⟩ = some _ := fun x => (x.h.cell (p := ⟨g, 10, none⟩) zx).trans A5.out.c10
  have d11 : ∀ x : Sub w5, x.w.cell? ⟨g, 11, none⟩ = some _ := fun x => (x.h.cell (p := ⟨g, 11, none⟩) zx).trans A5.out.c11
  refine wp_region_sub2 (by kernel_rfl) (by kernel_rfl) ?_
  intro cx
  clear cx
  repeat (first | go_big_quiet_skip | (go_big_quiet_want; go_big_quiet_op; first | go_big_quiet_on | (refine ⟨_, fun _ => rfl, ?_⟩; go_big_quiet_on) | go_big_quiet_call (first | (go_at_call 110; exact calls_sub (PC.out _)))))
  refine wpQuiet_nil ?_
  rintro _ ⟨y, rfl⟩
  have BZ : Hid (Below w.heap.size w y.w) := BY.out.trans (y.h.mono BY.out.size)
  have RZ : Hid (VB y.w w.heap.size 0 0 E0) := RB.out.below y.h
  have A6 : Hid _ := A5.out.below y.h
  have z6 : g < y.w.heap.size := Nat.lt_of_lt_of_le z5 y.h.size
  generalize y.w = w7 at *
  clear d0 d1 d2 d3 d4 d5 d6 d7 d8 d9 d10 d11 y
  have x9 := A6.out.c9
  have x10 := A6.out.c10
  have x11 := A6.out.c11
  have h := HH.out
  have e1 := E.out h
  go_wp2_with (first | (go_at_call 98; refine (W_.out _).mono ?_; rintro e w8 ⟨rfl, hb8⟩; have B8 : Hid (Below w.heap.size w w8) := BZ.out.trans (hb8.mono BZ.out.size); have R8 : Hid (VB w8 w.heap.size 0 0 E0) := RZ.out.below hb8; clear hb8 x9 x10 x11; obtain ⟨r0, r1, r2, r3, r4, r5⟩ := R8.out))
  exact bodyPost_ret (v := .tuple #[V 0 0 E0, .int .i64 3]) (by simp [results, Tryz.results65, go_sem, r0, r1, r2]) rfl ⟨rfl, ((B8.out.setCell (by simp) _).setCell (by simp) _).setCell (by simp) _⟩
set_option maxRecDepth 20000 in
set_option maxHeartbeats 4000000 in
theorem replace_yes (ha : A4 w g ⟨k, b, s⟩ ⟨kd, d, r⟩ ⟨kc, c, t⟩ ⟨kq, q_, u⟩) (f m p : Int) (h : ¬ (s.size : Int) < p - 1) (pb : p ≤ 9223372036854775807) (pc : 1 ≤ p) (W_ : ∀ w, Calls Tryz.prog 98 #[V kq q_ u] w fun e w' => e = .returned (.int .i64 p) ∧ Below w.heap.size w w') (f0 : 0 ≤ f) (m0 : 0 ≤ m) (fm : f + m ≤ (s.size : Int)) (hz : s.size ≤ 254) (hr : r.size ≤ 254) (hsum :  (s.extract 0 f.toNat ++ r ++ s.extract (f + m).toNat s.size).size ≤ 254) (PC : ∀ w, Calls Tryz.prog 110 #[.string s, V kc c t, V kq q_ u] w fun e w' => e = .returned (.tuple #[.int .i64 f, .int .i64 (f + m), .int .i64 0]) ∧ Below w.heap.size w w') :
    Calls Tryz.prog 65 #[.int .i64 hw, .slice (some ⟨g, 0, none⟩) 4 cap] w fun e w' => e = .returned (.tuple #[V 19 0 (s.extract 0 f.toNat ++ r ++ s.extract (f + m).toNat s.size), .int .i64 0]) ∧ Below w.heap.size w w' := by
  have PC : Hid _ := PC
  have zg : g < w.heap.size := block_lt_of_cell ha.a.c0
  have HA : Hid _ := ha
  clear ha
  have W_ : Hid _ := W_
  have HH : Hid _ := h
  have E : Hid (1 ≤ p → wrap64 (p - 1) = p - 1) := by intro q; unfold wrap64; omega
  clear h pb
  have za : Hid ((s.extract 0 f.toNat ++ r ++ s.extract (f + m).toNat s.size).size ≤ 508) := by show (s.extract 0 f.toNat ++ r ++ s.extract (f + m).toNat s.size).size ≤ 508; simp [ByteArray.size_append]; omega
  have k1 : ∀ w, (Op.stringOp .add (s.extract 0 f.toNat) r).run Tryz.prog w = .ok (.string (s.extract 0 f.toNat ++ r)) w := fun w => run_string_add_sum w _ _ (by simp; omega)
  have k2 : ∀ w, (Op.stringOp .add (s.extract 0 f.toNat ++ r) (s.extract (f + m).toNat s.size)).run Tryz.prog w = .ok (.string (s.extract 0 f.toNat ++ r ++ s.extract (f + m).toNat s.size)) w := fun w => run_string_add_sum w _ _ (by simp [ByteArray.size_append]; omega)
  have F0 : Hid _ := f0
  have M0 : Hid _ := m0
  have FM : Hid _ := fm
  have HZ : Hid _ := hsum
  have PP : Hid _ := pc
  clear f0 m0 fm hz hr hsum pc
  go_enter Tryz.func65, Tryz.ntmps65
  go_wp2_with fail
  have gr : Hid (Below w.heap.size w (w.alloc (.cells #[.int .u8 0, .int .u64 0, .string ⟨#[]⟩] 27))) := (Below.refl _ _).alloc (Nat.le_refl _) _
  have rb : Hid (VB (w.alloc (.cells #[.int .u8 0, .int .u64 0, .string ⟨#[]⟩] 27)) w.heap.size 0 0 E0) := ⟨by simp, by simp, by simp, by simp, by simp, by simp⟩
  have A_ : Hid _ := HA.out.below gr.out
  have zW : w.heap.size < (w.alloc (.cells #[.int .u8 0, .int .u64 0, .string ⟨#[]⟩] 27)).heap.size := by simp
  generalize (w.alloc (.cells #[.int .u8 0, .int .u64 0, .string ⟨#[]⟩] 27)) = W at *
  have zx := Nat.lt_trans zg zW
  have d0 : ∀ x : Sub W, x.w.cell? ⟨g, 0, none⟩ = some _ := fun x => (x.h.cell (p := ⟨g, 0, none⟩) zx).trans A_.out.a.c0
  have d1 : ∀ x : Sub W, x.w.cell? ⟨g, 1, none⟩ = some _ := fun x => (x.h.cell (p := ⟨g, 1, none⟩) zx).trans A_.out.a.c1
  have d2 : ∀ x : Sub W, x.w.cell? ⟨g, 2, none⟩ = some _ := fun x => (x.h.cell (p := ⟨g, 2, none⟩) zx).trans A_.out.a.c2
  have d3 : ∀ x : Sub W, x.w.cell? ⟨g, 3, none⟩ = some _ := fun x => (x.h.cell (p := ⟨g, 3, none⟩) zx).trans A_.out.a.c3
  have d4 : ∀ x : Sub W, x.w.cell? ⟨g, 4, none⟩ = some _ := fun x => (x.h.cell (p := ⟨g, 4, none⟩) zx).trans A_.out.a.c4
  have d5 : ∀ x : Sub W, x.w.cell? ⟨g, 5, none⟩ = some _ := fun x => (x.h.cell (p := ⟨g, 5, none⟩) zx).trans A_.out.a.c5
  have d6 : ∀ x : Sub W, x.w.cell? ⟨g, 6, none⟩ = some _ := fun x => (x.h.cell (p := ⟨g, 6, none⟩) zx).trans A_.out.a.c6
  have d7 : ∀ x : Sub W, x.w.cell? ⟨g, 7, none⟩ = some _ := fun x => (x.h.cell (p := ⟨g, 7, none⟩) zx).trans A_.out.a.c7
  have d8 : ∀ x : Sub W, x.w.cell? ⟨g, 8, none⟩ = some _ := fun x => (x.h.cell (p := ⟨g, 8, none⟩) zx).trans A_.out.a.c8
  have d9 : ∀ x : Sub W, x.w.cell? ⟨g, 9, none⟩ = some _ := fun x => (x.h.cell (p := ⟨g, 9, none⟩) zx).trans A_.out.c9
  have d10 : ∀ x : Sub W, x.w.cell? ⟨g, 10, none⟩ = some _ := fun x => (x.h.cell (p := ⟨g, 10, none⟩) zx).trans A_.out.c10
  have d11 : ∀ x : Sub W, x.w.cell? ⟨g, 11, none⟩ = some _ := fun x => (x.h.cell (p := ⟨g, 11, none⟩) zx).trans A_.out.c11
  refine wp_region_sub2 (by kernel_rfl) (by kernel_rfl) ?_
  intro cx
  clear cx
  repeat (first | go_big_quiet_skip | (go_big_quiet_want; go_big_quiet_op; first | go_big_quiet_on | (refine ⟨_, fun _ => rfl, ?_⟩; go_big_quiet_on) | go_big_quiet_call (first | fail)))
  refine wpQuiet_nil ?_
  rintro _ ⟨y, rfl⟩
  have BY : Hid (Below w.heap.size w y.w) := gr.out.trans (y.h.mono (Nat.le_of_lt zW))
  have RB : Hid (VB y.w w.heap.size 0 0 E0) := rb.out.below y.h
  have A5 : Hid _ := A_.out.below y.h
  have z5 : g < y.w.heap.size := Nat.lt_of_lt_of_le zx y.h.size
  generalize y.w = w5 at *
  clear d0 d1 d2 d3 d4 d5 d6 d7 d8 d9 d10 d11 y
  clear zx
  have zx := z5
  go_wp2_with fail
  have d0 : ∀ x : Sub w5, x.w.cell? ⟨g, 0, none⟩ = some _ := fun x => (x.h.cell (p := ⟨g, 0, none⟩) zx).trans A5.out.a.c0
  have d1 : ∀ x : Sub w5, x.w.cell? ⟨g, 1, none⟩ = some _ := fun x => (x.h.cell (p := ⟨g, 1, none⟩) zx).trans A5.out.a.c1
  have d2 : ∀ x : Sub w5, x.w.cell? ⟨g, 2, none⟩ = some _ := fun x => (x.h.cell (p := ⟨g, 2, none⟩) zx).trans A5.out.a.c2
  have d3 : ∀ x : Sub w5, x.w.cell? ⟨g, 3, none⟩ = some _ := fun x => (x.h.cell (p := ⟨g, 3, none⟩) zx).trans A5.out.a.c3
  have d4 : ∀ x : Sub w5, x.w.cell? ⟨g, 4, none⟩ = some _ := fun x => (x.h.cell (p := ⟨g, 4, none⟩) zx).trans A5.out.a.c4
  have d5 : ∀ x : Sub w5, x.w.cell? ⟨g, 5, none⟩ = some _ := fun x => (x.h.cell (p := ⟨g, 5, none⟩) zx).trans A5.out.a.c5
  have d6 : ∀ x : Sub w5, x.w.cell? ⟨g, 6, none⟩ = some _ := fun x => (x.h.cell (p := ⟨g, 6, none⟩) zx).trans A5.out.a.c6
  have d7 : ∀ x : Sub w5, x.w.cell? ⟨g, 7, none⟩ = some _ := fun x => (x.h.cell (p := ⟨g, 7, none⟩) zx).trans A5.out.a.c7
  have d8 : ∀ x : Sub w5, x.w.cell? ⟨g, 8, none⟩ = some _ := fun x => (x.h.cell (p := ⟨g, 8, none⟩) zx).trans A5.out.a.c8
  have d9 : ∀ x : Sub w5, x.w.cell? ⟨g, 9, none⟩ = some _ := fun x => (x.h.cell (p := ⟨g, 9, none⟩) zx).trans A5.out.c9
  have d10 : ∀ x : Sub w5, x.w.cell? ⟨g, 10, none⟩ = some _ := fun x => (x.h.cell (p := ⟨g, 10, none⟩) zx).trans A5.out.c10
  have d11 : ∀ x : Sub w5, x.w.cell? ⟨g, 11, none⟩ = some _ := fun x => (x.h.cell (p := ⟨g, 11, none⟩) zx).trans A5.out.c11
  refine wp_region_sub2 (by kernel_rfl) (by kernel_rfl) ?_
  intro cx
  clear cx
  repeat (first | go_big_quiet_skip | (go_big_quiet_want; go_big_quiet_op; first | go_big_quiet_on | (refine ⟨_, fun _ => rfl, ?_⟩; go_big_quiet_on) | go_big_quiet_call (first | (go_at_call 110; exact calls_sub (PC.out _)))))
  refine wpQuiet_nil ?_
  rintro _ ⟨y, rfl⟩
  have BZ : Hid (Below w.heap.size w y.w) := BY.out.trans (y.h.mono BY.out.size)
  have RZ : Hid (VB y.w w.heap.size 0 0 E0) := RB.out.below y.h
  have A6 : Hid _ := A5.out.below y.h
  have z6 : g < y.w.heap.size := Nat.lt_of_lt_of_le z5 y.h.size
  generalize y.w = w7 at *
  clear d0 d1 d2 d3 d4 d5 d6 d7 d8 d9 d10 d11 y
  have x9 := A6.out.c9
  have x10 := A6.out.c10
  have x11 := A6.out.c11
  have h := HH.out
  have e1 := E.out PP.out
  have f0 := F0.out
  have m0 := M0.out
  have fm := FM.out
  have f1 : f ≤ (s.size : Int) := by omega
  have f2 : 0 ≤ f + m := by omega
  have f3 : f ≤ f + m := by omega
  go_wp2_with (first | (go_at_call 98; refine (W_.out _).mono ?_; rintro e w8 ⟨rfl, hb8⟩; have B8 : Hid (Below w.heap.size w w8) := BZ.out.trans (hb8.mono BZ.out.size); have R8 : Hid (VB w8 w.heap.size 0 0 E0) := RZ.out.below hb8; clear hb8 x9 x10 x11))
  go_region_held3 (fun _ => True) (trivial) (first | (go_at_call 109; refine (Text_yes _ _ HZ.out).mono ?_; rintro e w6 ⟨rfl, hb6⟩; have B6 : Hid (Below w.heap.size w w6) := B8.out.drew.trans (hb6.mono B8.out.size); obtain ⟨r0, r1, r2, r3, r4, r5⟩ := (R8.out.below (Below.refl _ _).drew).below hb6; clear hb6))
  go_wp2
  exact bodyPost_ret (v := .tuple #[V 19 0 (s.extract 0 f.toNat ++ r ++ s.extract (f + m).toNat s.size), .int .i64 0]) (by simp [results, Tryz.results65, go_sem, r0, r1, r2]) rfl ⟨rfl, ((B6.out.setCell (by simp) _).setCell (by simp) _).setCell (by simp) _⟩
set_option maxRecDepth 20000 in
set_option maxHeartbeats 4000000 in
theorem replace_big (ha : A4 w g ⟨k, b, s⟩ ⟨kd, d, r⟩ ⟨kc, c, t⟩ ⟨kq, q_, u⟩) (f m p : Int) (h : ¬ (s.size : Int) < p - 1) (pb : p ≤ 9223372036854775807) (pc : 1 ≤ p) (W_ : ∀ w, Calls Tryz.prog 98 #[V kq q_ u] w fun e w' => e = .returned (.int .i64 p) ∧ Below w.heap.size w w') (f0 : 0 ≤ f) (m0 : 0 ≤ m) (fm : f + m ≤ (s.size : Int)) (hz : s.size ≤ 254) (hr : r.size ≤ 254) (hsum : ¬ (s.extract 0 f.toNat ++ r ++ s.extract (f + m).toNat s.size).size ≤ 254) (PC : ∀ w, Calls Tryz.prog 110 #[.string s, V kc c t, V kq q_ u] w fun e w' => e = .returned (.tuple #[.int .i64 f, .int .i64 (f + m), .int .i64 0]) ∧ Below w.heap.size w w') :
    Calls Tryz.prog 65 #[.int .i64 hw, .slice (some ⟨g, 0, none⟩) 4 cap] w fun e w' => e = .returned (.tuple #[V 0 0 E0, .int .i64 5]) ∧ Below w.heap.size w w' := by
  have PC : Hid _ := PC
  have zg : g < w.heap.size := block_lt_of_cell ha.a.c0
  have HA : Hid _ := ha
  clear ha
  have W_ : Hid _ := W_
  have HH : Hid _ := h
  have E : Hid (1 ≤ p → wrap64 (p - 1) = p - 1) := by intro q; unfold wrap64; omega
  clear h pb
  have za : Hid ((s.extract 0 f.toNat ++ r ++ s.extract (f + m).toNat s.size).size ≤ 508) := by show (s.extract 0 f.toNat ++ r ++ s.extract (f + m).toNat s.size).size ≤ 508; simp [ByteArray.size_append]; omega
  have k1 : ∀ w, (Op.stringOp .add (s.extract 0 f.toNat) r).run Tryz.prog w = .ok (.string (s.extract 0 f.toNat ++ r)) w := fun w => run_string_add_sum w _ _ (by simp; omega)
  have k2 : ∀ w, (Op.stringOp .add (s.extract 0 f.toNat ++ r) (s.extract (f + m).toNat s.size)).run Tryz.prog w = .ok (.string (s.extract 0 f.toNat ++ r ++ s.extract (f + m).toNat s.size)) w := fun w => run_string_add_sum w _ _ (by simp [ByteArray.size_append]; omega)
  have F0 : Hid _ := f0
  have M0 : Hid _ := m0
  have FM : Hid _ := fm
  have HZ : Hid _ := hsum
  have PP : Hid _ := pc
  clear f0 m0 fm hz hr hsum pc
  go_enter Tryz.func65, Tryz.ntmps65
  go_wp2_with fail
  have gr : Hid (Below w.heap.size w (w.alloc (.cells #[.int .u8 0, .int .u64 0, .string ⟨#[]⟩] 27))) := (Below.refl _ _).alloc (Nat.le_refl _) _
  have rb : Hid (VB (w.alloc (.cells #[.int .u8 0, .int .u64 0, .string ⟨#[]⟩] 27)) w.heap.size 0 0 E0) := ⟨by simp, by simp, by simp, by simp, by simp, by simp⟩
  have A_ : Hid _ := HA.out.below gr.out
  have zW : w.heap.size < (w.alloc (.cells #[.int .u8 0, .int .u64 0, .string ⟨#[]⟩] 27)).heap.size := by simp
  generalize (w.alloc (.cells #[.int .u8 0, .int .u64 0, .string ⟨#[]⟩] 27)) = W at *
  have zx := Nat.lt_trans zg zW
  have d0 : ∀ x : Sub W, x.w.cell? ⟨g, 0, none⟩ = some _ := fun x => (x.h.cell (p := ⟨g, 0, none⟩) zx).trans A_.out.a.c0
  have d1 : ∀ x : Sub W, x.w.cell? ⟨g, 1, none⟩ = some _ := fun x => (x.h.cell (p := ⟨g, 1, none⟩) zx).trans A_.out.a.c1
  have d2 : ∀ x : Sub W, x.w.cell? ⟨g, 2, none⟩ = some _ := fun x => (x.h.cell (p := ⟨g, 2, none⟩) zx).trans A_.out.a.c2
  have d3 : ∀ x : Sub W, x.w.cell? ⟨g, 3, none⟩ = some _ := fun x => (x.h.cell (p := ⟨g, 3, none⟩) zx).trans A_.out.a.c3
  have d4 : ∀ x : Sub W, x.w.cell? ⟨g, 4, none⟩ = some _ := fun x => (x.h.cell (p := ⟨g, 4, none⟩) zx).trans A_.out.a.c4
  have d5 : ∀ x : Sub W, x.w.cell? ⟨g, 5, none⟩ = some _ := fun x => (x.h.cell (p := ⟨g, 5, none⟩) zx).trans A_.out.a.c5
  have d6 : ∀ x : Sub W, x.w.cell? ⟨g, 6, none⟩ = some _ := fun x => (x.h.cell (p := ⟨g, 6, none⟩) zx).trans A_.out.a.c6
  have d7 : ∀ x : Sub W, x.w.cell? ⟨g, 7, none⟩ = some _ := fun x => (x.h.cell (p := ⟨g, 7, none⟩) zx).trans A_.out.a.c7
  have d8 : ∀ x : Sub W, x.w.cell? ⟨g, 8, none⟩ = some _ := fun x => (x.h.cell (p := ⟨g, 8, none⟩) zx).trans A_.out.a.c8
  have d9 : ∀ x : Sub W, x.w.cell? ⟨g, 9, none⟩ = some _ := fun x => (x.h.cell (p := ⟨g, 9, none⟩) zx).trans A_.out.c9
  have d10 : ∀ x : Sub W, x.w.cell? ⟨g, 10, none⟩ = some _ := fun x => (x.h.cell (p := ⟨g, 10, none⟩) zx).trans A_.out.c10
  have d11 : ∀ x : Sub W, x.w.cell? ⟨g, 11, none⟩ = some _ := fun x => (x.h.cell (p := ⟨g, 11, none⟩) zx).trans A_.out.c11
  refine wp_region_sub2 (by kernel_rfl) (by kernel_rfl) ?_
  intro cx
  clear cx
  repeat (first | go_big_quiet_skip | (go_big_quiet_want; go_big_quiet_op; first | go_big_quiet_on | (refine ⟨_, fun _ => rfl, ?_⟩; go_big_quiet_on) | go_big_quiet_call (first | fail)))
  refine wpQuiet_nil ?_
  rintro _ ⟨y, rfl⟩
  have BY : Hid (Below w.heap.size w y.w) := gr.out.trans (y.h.mono (Nat.le_of_lt zW))
  have RB : Hid (VB y.w w.heap.size 0 0 E0) := rb.out.below y.h
  have A5 : Hid _ := A_.out.below y.h
  have z5 : g < y.w.heap.size := Nat.lt_of_lt_of_le zx y.h.size
  generalize y.w = w5 at *
  clear d0 d1 d2 d3 d4 d5 d6 d7 d8 d9 d10 d11 y
  clear zx
  have zx := z5
  go_wp2_with fail
  have d0 : ∀ x : Sub w5, x.w.cell? ⟨g, 0, none⟩ = some _ := fun x => (x.h.cell (p := ⟨g, 0, none⟩) zx).trans A5.out.a.c0
  have d1 : ∀ x : Sub w5, x.w.cell? ⟨g, 1, none⟩ = some _ := fun x => (x.h.cell (p := ⟨g, 1, none⟩) zx).trans A5.out.a.c1
  have d2 : ∀ x : Sub w5, x.w.cell? ⟨g, 2, none⟩ = some _ := fun x => (x.h.cell (p := ⟨g, 2, none⟩) zx).trans A5.out.a.c2
  have d3 : ∀ x : Sub w5, x.w.cell? ⟨g, 3, none⟩ = some _ := fun x => (x.h.cell (p := ⟨g, 3, none⟩) zx).trans A5.out.a.c3
  have d4 : ∀ x : Sub w5, x.w.cell? ⟨g, 4, none⟩ = some _ := fun x => (x.h.cell (p := ⟨g, 4, none⟩) zx).trans A5.out.a.c4
  have d5 : ∀ x : Sub w5, x.w.cell? ⟨g, 5, none⟩ = some _ := fun x => (x.h.cell (p := ⟨g, 5, none⟩) zx).trans A5.out.a.c5
  have d6 : ∀ x : Sub w5, x.w.cell? ⟨g, 6, none⟩ = some _ := fun x => (x.h.cell (p := ⟨g, 6, none⟩) zx).trans A5.out.a.c6
  have d7 : ∀ x : Sub w5, x.w.cell? ⟨g, 7, none⟩ = some _ := fun x => (x.h.cell (p := ⟨g, 7, none⟩) zx).trans A5.out.a.c7
  have d8 : ∀ x : Sub w5, x.w.cell? ⟨g, 8, none⟩ = some _ := fun x => (x.h.cell (p := ⟨g, 8, none⟩) zx).trans A5.out.a.c8
  have d9 : ∀ x : Sub w5, x.w.cell? ⟨g, 9, none⟩ = some _ := fun x => (x.h.cell (p := ⟨g, 9, none⟩) zx).trans A5.out.c9
  have d10 : ∀ x : Sub w5, x.w.cell? ⟨g, 10, none⟩ = some _ := fun x => (x.h.cell (p := ⟨g, 10, none⟩) zx).trans A5.out.c10
  have d11 : ∀ x : Sub w5, x.w.cell? ⟨g, 11, none⟩ = some _ := fun x => (x.h.cell (p := ⟨g, 11, none⟩) zx).trans A5.out.c11
  refine wp_region_sub2 (by kernel_rfl) (by kernel_rfl) ?_
  intro cx
  clear cx
  repeat (first | go_big_quiet_skip | (go_big_quiet_want; go_big_quiet_op; first | go_big_quiet_on | (refine ⟨_, fun _ => rfl, ?_⟩; go_big_quiet_on) | go_big_quiet_call (first | (go_at_call 110; exact calls_sub (PC.out _)))))
  refine wpQuiet_nil ?_
  rintro _ ⟨y, rfl⟩
  have BZ : Hid (Below w.heap.size w y.w) := BY.out.trans (y.h.mono BY.out.size)
  have RZ : Hid (VB y.w w.heap.size 0 0 E0) := RB.out.below y.h
  have A6 : Hid _ := A5.out.below y.h
  have z6 : g < y.w.heap.size := Nat.lt_of_lt_of_le z5 y.h.size
  generalize y.w = w7 at *
  clear d0 d1 d2 d3 d4 d5 d6 d7 d8 d9 d10 d11 y
  have x9 := A6.out.c9
  have x10 := A6.out.c10
  have x11 := A6.out.c11
  have h := HH.out
  have e1 := E.out PP.out
  have f0 := F0.out
  have m0 := M0.out
  have fm := FM.out
  have f1 : f ≤ (s.size : Int) := by omega
  have f2 : 0 ≤ f + m := by omega
  have f3 : f ≤ f + m := by omega
  go_wp2_with (first | (go_at_call 98; refine (W_.out _).mono ?_; rintro e w8 ⟨rfl, hb8⟩; have B8 : Hid (Below w.heap.size w w8) := BZ.out.trans (hb8.mono BZ.out.size); have R8 : Hid (VB w8 w.heap.size 0 0 E0) := RZ.out.below hb8; clear hb8 x9 x10 x11))
  go_region_held3 (fun _ => True) (trivial) (first | (go_at_call 109; refine (Text_no _ _ HZ.out (by have a := za.out; unfold maxLen; omega)).mono ?_; rintro e w6 ⟨rfl, hb6⟩; have B6 : Hid (Below w.heap.size w w6) := B8.out.drew.trans (hb6.mono B8.out.size); obtain ⟨r0, r1, r2, r3, r4, r5⟩ := (R8.out.below (Below.refl _ _).drew).below hb6; clear hb6))
  go_wp2
  exact bodyPost_ret (v := .tuple #[V 0 0 E0, .int .i64 5]) (by simp [results, Tryz.results65, go_sem, r0, r1, r2]) rfl ⟨rfl, ((B6.out.setCell (by simp) _).setCell (by simp) _).setCell (by simp) _⟩
end
end Go.Proofs.YtpaibmganlaaeaaGreatDoor
