/- The walk of StdlibTexts; no statement of the seat is proved here. -/
import Derived.Test.YtkanhbokdjppoaaGreatDoorStdQ
import Derived.Test.YtkanhbokdjppoaaGreatDoorIntRV
namespace Go.Proofs.YtkanhbokdjppoaaGreatDoor
set_option linter.unusedVariables false
open Go.RowKit
theorem bl_app (a b : ByteArray) : (a ++ b).data.toList = a.data.toList ++ b.data.toList := by rw [ByteArray.data_append]; simp
theorem bl_ext (s : ByteArray) (a b : Nat) : (s.extract a b).data.toList = (s.data.toList.take b).drop a := by rw [ByteArray.data_extract]; simp [List.drop_take]
theorem bl_len (s : ByteArray) : s.data.toList.length = s.size := by rw [Array.length_toList]; rfl
theorem bl_eq {a b : ByteArray} (h : a.data.toList = b.data.toList) : a = b := by
  cases a with | mk x => cases b with | mk y => cases x; cases y; simp at h; rw [h]
theorem cat_back (s : ByteArray) (n : Nat) (h : n ≤ s.size) : s.extract 0 n ++ s.extract (s.size - (s.size - n)) s.size = s := by
  apply bl_eq
  rw [bl_app, bl_ext, bl_ext, show s.size - (s.size - n) = n by omega, List.drop_zero, ← bl_len s, List.take_length, List.take_append_drop]
theorem del_back (s t : ByteArray) (n : Nat) (h : n ≤ s.size) : (s.extract 0 n ++ t ++ s.extract n s.size).extract 0 (n + 1 - 1) ++ (s.extract 0 n ++ t ++ s.extract n s.size).extract (n + 1 - 1 + t.size) (s.extract 0 n ++ t ++ s.extract n s.size).size = s := by
  apply bl_eq
  have l1 : (s.data.toList.take n).length = n := by rw [List.length_take, bl_len]; omega
  rw [bl_app, bl_ext, bl_ext, ← bl_len (s.extract 0 n ++ t ++ s.extract n s.size), List.take_length, bl_app, bl_app, bl_ext, bl_ext, Nat.add_sub_cancel, List.drop_zero, List.drop_zero, ← bl_len s, List.take_length, List.append_assoc, ← bl_len t]
  rw [List.take_append_of_le_length (by omega), List.take_of_length_le (by omega)]
  rw [← List.append_assoc, List.drop_append_of_le_length (by rw [List.length_append]; omega), List.drop_of_length_le (by rw [List.length_append]; omega), List.nil_append, List.take_append_drop]
theorem TextR_yes (s : ByteArray) (w : World) (h : s.size ≤ 254) : Calls Tryz.prog 17 #[.string s] w fun e w' => e = .returned (.tuple #[V 19 0 s, .int .i64 0]) ∧ Below w.heap.size w w' := by
  have := TextR_of s w (by unfold maxLen; omega); unfold textR at this; rwa [if_pos h] at this
theorem TextR_no (s : ByteArray) (w : World) (h : ¬ s.size ≤ 254) (hs : s.size ≤ maxLen) : Calls Tryz.prog 17 #[.string s] w fun e w' => e = .returned (.tuple #[V 0 0 E0, .int .i64 5]) ∧ Below w.heap.size w w' := by
  have := TextR_of s w hs; unfold textR at this; rwa [if_neg h] at this
theorem IntR3 (z : Int) (n : Nat) (w : World) (hz : z = n) (h : n ≤ 255) : Calls Tryz.prog 18 #[.int .u8 3, .int .i64 z] w fun e w' => e = .returned (.tuple #[V 3 n E0, .int .i64 0]) ∧ Below w.heap.size w w' := by
  subst hz; exact IntR_p_yes 3 n w (by omega) (by omega) (by omega) (by omega) (iV_may n h)
theorem mod_nat (z : Nat) (n : Int) (h : z ≤ 254) (hn : -9223372036854775808 ≤ n ∧ n ≤ 9223372036854775807) : ∃ m : Nat, wrap64 ((IntKind.u64.wrap n).tmod ((z : Int) + 1)) = m ∧ m ≤ z := by
  have e : IntKind.u64.wrap n = n % 18446744073709551616 := rfl
  have h0 : 0 ≤ IntKind.u64.wrap n := by rw [e]; omega
  rw [Int.tmod_eq_emod_of_nonneg h0]
  have b0 := Int.emod_nonneg (IntKind.u64.wrap n) (show (z : Int) + 1 ≠ 0 by omega)
  have b1 := Int.emod_lt_of_pos (IntKind.u64.wrap n) (show (0 : Int) < (z : Int) + 1 by omega)
  generalize IntKind.u64.wrap n % ((z : Int) + 1) = q at *
  exact ⟨q.toNat, by unfold wrap64; omega, by omega⟩
theorem tx2_at (w : World) (u v : Vl) : VsAt (w.alloc (.cells #[.int .u8 u.k, .int .u64 u.b, .string u.s, .int .u8 v.k, .int .u64 v.b, .string v.s] 38)) ⟨w.heap.size, 0, none⟩ 2 (tx2 u v) := by
  intro i hi
  match i, hi with
  | 0, _ => exact ⟨by simp [tx2, Addr.add], by simp [tx2, Addr.add], by simp [tx2, Addr.add]⟩
  | 1, _ => exact ⟨by simp [tx2, Addr.add], by simp [tx2, Addr.add], by simp [tx2, Addr.add]⟩
theorem tx3_at (w : World) (u v x : Vl) : VsAt (w.alloc (.cells #[.int .u8 u.k, .int .u64 u.b, .string u.s, .int .u8 v.k, .int .u64 v.b, .string v.s, .int .u8 x.k, .int .u64 x.b, .string x.s] 38)) ⟨w.heap.size, 0, none⟩ 3 (tx3 u v x) := by
  intro i hi
  match i, hi with
  | 0, _ => exact ⟨by simp [tx3, Addr.add], by simp [tx3, Addr.add], by simp [tx3, Addr.add]⟩
  | 1, _ => exact ⟨by simp [tx3, Addr.add], by simp [tx3, Addr.add], by simp [tx3, Addr.add]⟩
  | 2, _ => exact ⟨by simp [tx3, Addr.add], by simp [tx3, Addr.add], by simp [tx3, Addr.add]⟩
theorem concat_back (g : Nat) (w : World) (s : ByteArray) (m : Nat) (hs : s.size ≤ 254) (hle : m ≤ s.size) (ht : Asc w) (hv : VsAt w ⟨g, 0, none⟩ 2 (tx2 (tV (s.extract 0 m)) (tV (s.extract (s.size - (s.size - m)) s.size)))) :
    Calls Tryz.prog 19 #[.string ⟨#[67, 79, 78, 67, 65, 84]⟩, .slice (some ⟨g, 0, none⟩) 2 2] w fun e w' => e = .returned (.tuple #[V 19 0 s, .bool true]) ∧ Below w.heap.size w w' := by
  have := call_CONCAT g 2 w _ _ (by simp; omega) (by simp; omega) (by rw [cat_back s m hle]; exact hs) ht hv
  rwa [cat_back s m hle] at this
theorem delete_back (g : Nat) (w : World) (s t : ByteArray) (m : Nat) (hs : s.size ≤ 254) (ht : t.size ≤ 254) (hle : m ≤ s.size) (hsum : s.size + t.size ≤ 254) (hA : Asc w) (hv : VsAt w ⟨g, 0, none⟩ 3 (tx3 (tV (s.extract 0 m ++ t ++ s.extract m s.size)) (iV t.size) (iV (m + 1)))) :
    Calls Tryz.prog 19 #[.string ⟨#[68, 69, 76, 69, 84, 69]⟩, .slice (some ⟨g, 0, none⟩) 3 3] w fun e w' => e = .returned (.tuple #[V 19 0 s, .bool true]) ∧ Below w.heap.size w w' := by
  have z : (s.extract 0 m ++ t ++ s.extract m s.size).size = s.size + t.size := by simp [ByteArray.size_append]; omega
  have := call_DELETE g 3 w _ t.size (m + 1) (by rw [z]; exact hsum) (by omega) (by rw [z]; omega) hA hv
  rwa [del_back s t m hle] at this
section
variable (s t : ByteArray) (n : Int) (w : World)
set_option maxHeartbeats 4000000 in
theorem texts_g (ka ba fa kb bb fb : Int) (sa sb : ByteArray) (hA : ∀ w, Calls Tryz.prog 17 #[.string s] w fun e w' => e = .returned (.tuple #[V ka ba sa, .int .i64 fa]) ∧ Below w.heap.size w w')
    (hB : ∀ w, Calls Tryz.prog 17 #[.string t] w fun e w' => e = .returned (.tuple #[V kb bb sb, .int .i64 fb]) ∧ Below w.heap.size w w') (p : Bool) (h1 : (fa == 0) = p) (h2 : p = true → (fb == 0) = false) :
    Calls Tryz.prog 5 #[.string s, .string t, .int .i64 n] w fun e w' => e = .returned (.bool true) ∧ Below w.heap.size w w' := by
  have A : Hid _ := hA
  have B : Hid _ := hB
  clear hA hB
  cases p
  · have h1' : (fa != 0) = true := by simp only [bne, h1]; rfl
    clear h2
    go_enter Tryz.func5, Tryz.ntmps5
    go_wp2_with fail
    refine (A.out _).mono ?_
    rintro e w1 ⟨rfl, hb⟩
    have H1 : Hid (Below w.heap.size w w1) := hb
    clear hb
    go_wp2_with fail
    refine (B.out _).mono ?_
    rintro e w2 ⟨rfl, hb⟩
    have H2 : Hid (Below w.heap.size w w2) := (H1.out.alloc H1.out.size _).trans (hb.mono (by have := H1.out.size; simp; omega))
    clear hb
    go_wp2
    go_ret
    exact ⟨rfl, H2.out.alloc H2.out.size _⟩
  · have h2 := h2 rfl
    have h1' : (fa != 0) = false := by simp only [bne, h1]; rfl
    have h2' : (fb != 0) = true := by simp only [bne, h2]; rfl
    go_enter Tryz.func5, Tryz.ntmps5
    go_wp2_with fail
    refine (A.out _).mono ?_
    rintro e w1 ⟨rfl, hb⟩
    have H1 : Hid (Below w.heap.size w w1) := hb
    clear hb
    go_wp2_with fail
    refine (B.out _).mono ?_
    rintro e w2 ⟨rfl, hb⟩
    have H2 : Hid (Below w.heap.size w w2) := (H1.out.alloc H1.out.size _).trans (hb.mono (by have := H1.out.size; simp; omega))
    clear hb
    go_wp2
    go_ret
    exact ⟨rfl, H2.out.alloc H2.out.size _⟩
theorem texts_x (hs : s.size ≤ maxLen) (ht : t.size ≤ maxLen) (h : ¬ (s.size ≤ 254 ∧ t.size ≤ 254)) :
    Calls Tryz.prog 5 #[.string s, .string t, .int .i64 n] w fun e w' => e = .returned (.bool true) ∧ Below w.heap.size w w' := by
  by_cases a : s.size ≤ 254
  · have b : ¬ t.size ≤ 254 := fun b => h ⟨a, b⟩
    exact texts_g s t n w _ _ _ _ _ _ _ _ (fun w => TextR_yes s w a) (fun w => TextR_no t w b ht) true rfl (fun _ => rfl)
  · by_cases b : t.size ≤ 254
    · exact texts_g s t n w _ _ _ _ _ _ _ _ (fun w => TextR_no s w a hs) (fun w => TextR_yes t w b) false rfl (fun h => by cases h)
    · exact texts_g s t n w _ _ _ _ _ _ _ _ (fun w => TextR_no s w a hs) (fun w => TextR_no t w b ht) false rfl (fun h => by cases h)
set_option maxHeartbeats 8000000 in
theorem texts_in (hs : s.size ≤ 254) (ht : t.size ≤ 254) (hn : -9223372036854775808 ≤ n ∧ n ≤ 9223372036854775807) (hT : Asc w) :
    Calls Tryz.prog 5 #[.string s, .string t, .int .i64 n] w fun e w' => e = .returned (.bool true) ∧ Below w.heap.size w w' := by
  have A : Hid _ := fun w => TextR_yes s w hs
  have B : Hid _ := fun w => TextR_yes t w ht
  have AS : Hid (Asc w) := hT
  clear hT
  go_enter Tryz.func5, Tryz.ntmps5
  go_wp2_with fail
  refine (A.out _).mono ?_
  rintro e w1 ⟨rfl, hb⟩
  have H1 : Hid (Below w.heap.size w w1) := hb
  clear hb
  go_wp2_with fail
  have va : Hid (VB (w1.alloc (.cells #[.int .u8 19, .int .u64 0, .string s] 38)) w1.heap.size 19 0 s) := ⟨by simp, by simp, by simp, by simp, by simp, by simp⟩
  refine (B.out _).mono ?_
  rintro e w2 ⟨rfl, hb⟩
  have H2 : Hid (Below w.heap.size w w2) := (H1.out.alloc H1.out.size _).trans (hb.mono (by have := H1.out.size; simp; omega))
  have Va : Hid (VB w2 w1.heap.size 19 0 s) := va.out.below hb
  clear hb va
  have V0 := Va
  have H := H2
  clear Va H2 H1 A B
  obtain ⟨x00, x01, x02, _, _, _⟩ := V0.out
  have l0 : w1.heap.size < w2.heap.size := block_lt_of_cell x00
  go_wp2_with fail
  obtain ⟨m, hm, hle⟩ := mod_nat s.size n hs hn
  rw [hm]
  have hle1 : (m : Int) ≤ s.size := by omega
  have hs' : (s.size : Int) ≤ 254 := by omega
  have ht' : (t.size : Int) ≤ 254 := by omega
  clear hm hn
  have D : Hid (m ≤ s.size ∧ s.size ≤ 254 ∧ t.size ≤ 254) := ⟨hle, hs, ht⟩
  clear x00 x01 x02 l0
  have gr : Hid (Below w2.heap.size w2 (w2.alloc (.cells #[.int .u8 19, .int .u64 0, .string t] 38))) := (Below.refl _ _).alloc (Nat.le_refl _) _
  have HX : Hid (Below w.heap.size w (w2.alloc (.cells #[.int .u8 19, .int .u64 0, .string t] 38))) := H.out.trans (gr.out.mono H.out.size)
  have Z : w2.heap.size + 1 = (w2.alloc (.cells #[.int .u8 19, .int .u64 0, .string t] 38)).heap.size := by simp
  have V0 : Hid (VB (w2.alloc (.cells #[.int .u8 19, .int .u64 0, .string t] 38)) (w1.heap.size) 19 0 s) := V0.out.below gr.out
  have V1 : Hid (VB (w2.alloc (.cells #[.int .u8 19, .int .u64 0, .string t] 38)) w2.heap.size 19 0 t) := ⟨by simp, by simp, by simp, by simp, by simp, by simp⟩
  clear H gr
  generalize (w2.alloc (.cells #[.int .u8 19, .int .u64 0, .string t] 38)) = X1 at *
  clear Z
  refine (IntR3 _ m _ rfl (by omega)).mono ?_
  rintro e w3 ⟨rfl, hb⟩
  have H : Hid (Below w.heap.size w w3) := HX.out.trans (hb.mono HX.out.size)
  have V0 : Hid (VB w3 (w1.heap.size) 19 0 s) := V0.out.below hb
  have V1 : Hid (VB w3 (w2.heap.size) 19 0 t) := V1.out.below hb
  clear hb HX
  obtain ⟨x00, x01, x02, _, _, _⟩ := V0.out
  have l0 : w1.heap.size < w3.heap.size := block_lt_of_cell x00
  obtain ⟨x10, x11, x12, _, _, _⟩ := V1.out
  have l1 : w2.heap.size < w3.heap.size := block_lt_of_cell x10
  go_wp2_with fail
  clear x00 x01 x02 l0
  clear x10 x11 x12 l1
  have gr : Hid (Below w3.heap.size w3 (w3.alloc (.cells #[.int .u8 3, .int .u64 m, .string E0] 38))) := (Below.refl _ _).alloc (Nat.le_refl _) _
  have HX : Hid (Below w.heap.size w (w3.alloc (.cells #[.int .u8 3, .int .u64 m, .string E0] 38))) := H.out.trans (gr.out.mono H.out.size)
  have Z : w3.heap.size + 1 = (w3.alloc (.cells #[.int .u8 3, .int .u64 m, .string E0] 38)).heap.size := by simp
  have V0 : Hid (VB (w3.alloc (.cells #[.int .u8 3, .int .u64 m, .string E0] 38)) (w1.heap.size) 19 0 s) := V0.out.below gr.out
  have V1 : Hid (VB (w3.alloc (.cells #[.int .u8 3, .int .u64 m, .string E0] 38)) (w2.heap.size) 19 0 t) := V1.out.below gr.out
  have V2 : Hid (VB (w3.alloc (.cells #[.int .u8 3, .int .u64 m, .string E0] 38)) w3.heap.size 3 m E0) := ⟨by simp, by simp, by simp, by simp, by simp, by simp⟩
  clear H gr
  generalize (w3.alloc (.cells #[.int .u8 3, .int .u64 m, .string E0] 38)) = X2 at *
  clear Z
  refine (IntR3 _ (s.size - m) _ (by omega) (by omega)).mono ?_
  rintro e w4 ⟨rfl, hb⟩
  have H : Hid (Below w.heap.size w w4) := HX.out.trans (hb.mono HX.out.size)
  have V0 : Hid (VB w4 (w1.heap.size) 19 0 s) := V0.out.below hb
  have V1 : Hid (VB w4 (w2.heap.size) 19 0 t) := V1.out.below hb
  have V2 : Hid (VB w4 (w3.heap.size) 3 m E0) := V2.out.below hb
  clear hb HX
  obtain ⟨x00, x01, x02, _, _, _⟩ := V0.out
  have l0 : w1.heap.size < w4.heap.size := block_lt_of_cell x00
  obtain ⟨x10, x11, x12, _, _, _⟩ := V1.out
  have l1 : w2.heap.size < w4.heap.size := block_lt_of_cell x10
  obtain ⟨x20, x21, x22, _, _, _⟩ := V2.out
  have l2 : w3.heap.size < w4.heap.size := block_lt_of_cell x20
  go_wp2_with fail
  clear x00 x01 x02 l0
  clear x10 x11 x12 l1
  clear x20 x21 x22 l2
  have gr : Hid (Below w4.heap.size w4 (w4.alloc (.cells #[.int .u8 3, .int .u64 ((s.size - m : Nat) : Int), .string E0] 38))) := (Below.refl _ _).alloc (Nat.le_refl _) _
  have HX : Hid (Below w.heap.size w (w4.alloc (.cells #[.int .u8 3, .int .u64 ((s.size - m : Nat) : Int), .string E0] 38))) := H.out.trans (gr.out.mono H.out.size)
  have Z : w4.heap.size + 1 = (w4.alloc (.cells #[.int .u8 3, .int .u64 ((s.size - m : Nat) : Int), .string E0] 38)).heap.size := by simp
  have V0 : Hid (VB (w4.alloc (.cells #[.int .u8 3, .int .u64 ((s.size - m : Nat) : Int), .string E0] 38)) (w1.heap.size) 19 0 s) := V0.out.below gr.out
  have V1 : Hid (VB (w4.alloc (.cells #[.int .u8 3, .int .u64 ((s.size - m : Nat) : Int), .string E0] 38)) (w2.heap.size) 19 0 t) := V1.out.below gr.out
  have V2 : Hid (VB (w4.alloc (.cells #[.int .u8 3, .int .u64 ((s.size - m : Nat) : Int), .string E0] 38)) (w3.heap.size) 3 m E0) := V2.out.below gr.out
  have V3 : Hid (VB (w4.alloc (.cells #[.int .u8 3, .int .u64 ((s.size - m : Nat) : Int), .string E0] 38)) w4.heap.size 3 ((s.size - m : Nat) : Int) E0) := ⟨by simp, by simp, by simp, by simp, by simp, by simp⟩
  clear H gr
  rw [Z]
  generalize (w4.alloc (.cells #[.int .u8 3, .int .u64 ((s.size - m : Nat) : Int), .string E0] 38)) = X3 at *
  clear Z
  have gr2 : Hid (Below X3.heap.size X3 (X3.alloc (.cells #[.int .u8 19, .int .u64 0, .string s, .int .u8 3, .int .u64 m, .string E0] 38))) := (Below.refl _ _).alloc (Nat.le_refl _) _
  have HY : Hid (Below w.heap.size w (X3.alloc (.cells #[.int .u8 19, .int .u64 0, .string s, .int .u8 3, .int .u64 m, .string E0] 38))) := HX.out.trans (gr2.out.mono HX.out.size)
  refine (call_LEFT X3.heap.size 2 (X3.alloc (.cells #[.int .u8 19, .int .u64 0, .string s, .int .u8 3, .int .u64 m, .string E0] 38)) s m hs hle (AS.out.below HY.out) (tx2_at X3 (tV s) (iV m))).mono ?_
  rintro e w5 ⟨rfl, hb⟩
  have H : Hid (Below w.heap.size w w5) := HY.out.trans (hb.mono HY.out.size)
  have V0 : Hid (VB w5 (w1.heap.size) 19 0 s) := (V0.out.below gr2.out).below hb
  have V1 : Hid (VB w5 (w2.heap.size) 19 0 t) := (V1.out.below gr2.out).below hb
  have V2 : Hid (VB w5 (w3.heap.size) 3 m E0) := (V2.out.below gr2.out).below hb
  have V3 : Hid (VB w5 (w4.heap.size) 3 ((s.size - m : Nat) : Int) E0) := (V3.out.below gr2.out).below hb
  clear hb HY HX gr2
  obtain ⟨x00, x01, x02, _, _, _⟩ := V0.out
  have l0 : w1.heap.size < w5.heap.size := block_lt_of_cell x00
  obtain ⟨x10, x11, x12, _, _, _⟩ := V1.out
  have l1 : w2.heap.size < w5.heap.size := block_lt_of_cell x10
  obtain ⟨x20, x21, x22, _, _, _⟩ := V2.out
  have l2 : w3.heap.size < w5.heap.size := block_lt_of_cell x20
  obtain ⟨x30, x31, x32, _, _, _⟩ := V3.out
  have l3 : w4.heap.size < w5.heap.size := block_lt_of_cell x30
  go_wp2_with fail
  clear x00 x01 x02 l0
  clear x10 x11 x12 l1
  clear x20 x21 x22 l2
  clear x30 x31 x32 l3
  have gr : Hid (Below w5.heap.size w5 (w5.alloc (.cells #[.int .u8 19, .int .u64 0, .string (s.extract 0 m)] 38))) := (Below.refl _ _).alloc (Nat.le_refl _) _
  have HX : Hid (Below w.heap.size w (w5.alloc (.cells #[.int .u8 19, .int .u64 0, .string (s.extract 0 m)] 38))) := H.out.trans (gr.out.mono H.out.size)
  have Z : w5.heap.size + 1 = (w5.alloc (.cells #[.int .u8 19, .int .u64 0, .string (s.extract 0 m)] 38)).heap.size := by simp
  have V0 : Hid (VB (w5.alloc (.cells #[.int .u8 19, .int .u64 0, .string (s.extract 0 m)] 38)) (w1.heap.size) 19 0 s) := V0.out.below gr.out
  have V1 : Hid (VB (w5.alloc (.cells #[.int .u8 19, .int .u64 0, .string (s.extract 0 m)] 38)) (w2.heap.size) 19 0 t) := V1.out.below gr.out
  have V2 : Hid (VB (w5.alloc (.cells #[.int .u8 19, .int .u64 0, .string (s.extract 0 m)] 38)) (w3.heap.size) 3 m E0) := V2.out.below gr.out
  have V3 : Hid (VB (w5.alloc (.cells #[.int .u8 19, .int .u64 0, .string (s.extract 0 m)] 38)) (w4.heap.size) 3 ((s.size - m : Nat) : Int) E0) := V3.out.below gr.out
  have V4 : Hid (VB (w5.alloc (.cells #[.int .u8 19, .int .u64 0, .string (s.extract 0 m)] 38)) w5.heap.size 19 0 (s.extract 0 m)) := ⟨by simp, by simp, by simp, by simp, by simp, by simp⟩
  clear H gr
  rw [Z]
  generalize (w5.alloc (.cells #[.int .u8 19, .int .u64 0, .string (s.extract 0 m)] 38)) = X4 at *
  clear Z
  have gr2 : Hid (Below X4.heap.size X4 (X4.alloc (.cells #[.int .u8 19, .int .u64 0, .string s, .int .u8 3, .int .u64 ((s.size - m : Nat) : Int), .string E0] 38))) := (Below.refl _ _).alloc (Nat.le_refl _) _
  have HY : Hid (Below w.heap.size w (X4.alloc (.cells #[.int .u8 19, .int .u64 0, .string s, .int .u8 3, .int .u64 ((s.size - m : Nat) : Int), .string E0] 38))) := HX.out.trans (gr2.out.mono HX.out.size)
  refine (call_RIGHT X4.heap.size 2 (X4.alloc (.cells #[.int .u8 19, .int .u64 0, .string s, .int .u8 3, .int .u64 ((s.size - m : Nat) : Int), .string E0] 38)) s (s.size - m) hs (by omega) (AS.out.below HY.out) (tx2_at X4 (tV s) (iV (s.size - m)))).mono ?_
  rintro e w6 ⟨rfl, hb⟩
  have H : Hid (Below w.heap.size w w6) := HY.out.trans (hb.mono HY.out.size)
  have V0 : Hid (VB w6 (w1.heap.size) 19 0 s) := (V0.out.below gr2.out).below hb
  have V1 : Hid (VB w6 (w2.heap.size) 19 0 t) := (V1.out.below gr2.out).below hb
  have V2 : Hid (VB w6 (w3.heap.size) 3 m E0) := (V2.out.below gr2.out).below hb
  have V3 : Hid (VB w6 (w4.heap.size) 3 ((s.size - m : Nat) : Int) E0) := (V3.out.below gr2.out).below hb
  have V4 : Hid (VB w6 (w5.heap.size) 19 0 (s.extract 0 m)) := (V4.out.below gr2.out).below hb
  clear hb HY HX gr2
  obtain ⟨x00, x01, x02, _, _, _⟩ := V0.out
  have l0 : w1.heap.size < w6.heap.size := block_lt_of_cell x00
  obtain ⟨x10, x11, x12, _, _, _⟩ := V1.out
  have l1 : w2.heap.size < w6.heap.size := block_lt_of_cell x10
  obtain ⟨x20, x21, x22, _, _, _⟩ := V2.out
  have l2 : w3.heap.size < w6.heap.size := block_lt_of_cell x20
  obtain ⟨x30, x31, x32, _, _, _⟩ := V3.out
  have l3 : w4.heap.size < w6.heap.size := block_lt_of_cell x30
  obtain ⟨x40, x41, x42, _, _, _⟩ := V4.out
  have l4 : w5.heap.size < w6.heap.size := block_lt_of_cell x40
  go_wp2_with fail
  clear x00 x01 x02 l0
  clear x10 x11 x12 l1
  clear x20 x21 x22 l2
  clear x30 x31 x32 l3
  clear x40 x41 x42 l4
  have gr : Hid (Below w6.heap.size w6 (w6.alloc (.cells #[.int .u8 19, .int .u64 0, .string (s.extract (s.size - (s.size - m)) s.size)] 38))) := (Below.refl _ _).alloc (Nat.le_refl _) _
  have HX : Hid (Below w.heap.size w (w6.alloc (.cells #[.int .u8 19, .int .u64 0, .string (s.extract (s.size - (s.size - m)) s.size)] 38))) := H.out.trans (gr.out.mono H.out.size)
  have Z : w6.heap.size + 1 = (w6.alloc (.cells #[.int .u8 19, .int .u64 0, .string (s.extract (s.size - (s.size - m)) s.size)] 38)).heap.size := by simp
  have V0 : Hid (VB (w6.alloc (.cells #[.int .u8 19, .int .u64 0, .string (s.extract (s.size - (s.size - m)) s.size)] 38)) (w1.heap.size) 19 0 s) := V0.out.below gr.out
  have V1 : Hid (VB (w6.alloc (.cells #[.int .u8 19, .int .u64 0, .string (s.extract (s.size - (s.size - m)) s.size)] 38)) (w2.heap.size) 19 0 t) := V1.out.below gr.out
  have V2 : Hid (VB (w6.alloc (.cells #[.int .u8 19, .int .u64 0, .string (s.extract (s.size - (s.size - m)) s.size)] 38)) (w3.heap.size) 3 m E0) := V2.out.below gr.out
  have V3 : Hid (VB (w6.alloc (.cells #[.int .u8 19, .int .u64 0, .string (s.extract (s.size - (s.size - m)) s.size)] 38)) (w4.heap.size) 3 ((s.size - m : Nat) : Int) E0) := V3.out.below gr.out
  have V4 : Hid (VB (w6.alloc (.cells #[.int .u8 19, .int .u64 0, .string (s.extract (s.size - (s.size - m)) s.size)] 38)) (w5.heap.size) 19 0 (s.extract 0 m)) := V4.out.below gr.out
  have V5 : Hid (VB (w6.alloc (.cells #[.int .u8 19, .int .u64 0, .string (s.extract (s.size - (s.size - m)) s.size)] 38)) w6.heap.size 19 0 (s.extract (s.size - (s.size - m)) s.size)) := ⟨by simp, by simp, by simp, by simp, by simp, by simp⟩
  clear H gr
  rw [Z]
  generalize (w6.alloc (.cells #[.int .u8 19, .int .u64 0, .string (s.extract (s.size - (s.size - m)) s.size)] 38)) = X5 at *
  clear Z
  have gr2 : Hid (Below X5.heap.size X5 (X5.alloc (.cells #[.int .u8 19, .int .u64 0, .string (s.extract 0 m), .int .u8 19, .int .u64 0, .string (s.extract (s.size - (s.size - m)) s.size)] 38))) := (Below.refl _ _).alloc (Nat.le_refl _) _
  have HY : Hid (Below w.heap.size w (X5.alloc (.cells #[.int .u8 19, .int .u64 0, .string (s.extract 0 m), .int .u8 19, .int .u64 0, .string (s.extract (s.size - (s.size - m)) s.size)] 38))) := HX.out.trans (gr2.out.mono HX.out.size)
  refine (concat_back X5.heap.size (X5.alloc (.cells #[.int .u8 19, .int .u64 0, .string (s.extract 0 m), .int .u8 19, .int .u64 0, .string (s.extract (s.size - (s.size - m)) s.size)] 38)) s m hs hle (AS.out.below HY.out) (tx2_at X5 (tV (s.extract 0 m)) (tV (s.extract (s.size - (s.size - m)) s.size)))).mono ?_
  rintro e w7 ⟨rfl, hb⟩
  have H : Hid (Below w.heap.size w w7) := HY.out.trans (hb.mono HY.out.size)
  have V0 : Hid (VB w7 (w1.heap.size) 19 0 s) := (V0.out.below gr2.out).below hb
  have V1 : Hid (VB w7 (w2.heap.size) 19 0 t) := (V1.out.below gr2.out).below hb
  have V2 : Hid (VB w7 (w3.heap.size) 3 m E0) := (V2.out.below gr2.out).below hb
  have V3 : Hid (VB w7 (w4.heap.size) 3 ((s.size - m : Nat) : Int) E0) := (V3.out.below gr2.out).below hb
  have V4 : Hid (VB w7 (w5.heap.size) 19 0 (s.extract 0 m)) := (V4.out.below gr2.out).below hb
  have V5 : Hid (VB w7 (w6.heap.size) 19 0 (s.extract (s.size - (s.size - m)) s.size)) := (V5.out.below gr2.out).below hb
  clear hb HY HX gr2
  obtain ⟨x00, x01, x02, _, _, _⟩ := V0.out
  have l0 : w1.heap.size < w7.heap.size := block_lt_of_cell x00
  obtain ⟨x10, x11, x12, _, _, _⟩ := V1.out
  have l1 : w2.heap.size < w7.heap.size := block_lt_of_cell x10
  obtain ⟨x20, x21, x22, _, _, _⟩ := V2.out
  have l2 : w3.heap.size < w7.heap.size := block_lt_of_cell x20
  obtain ⟨x30, x31, x32, _, _, _⟩ := V3.out
  have l3 : w4.heap.size < w7.heap.size := block_lt_of_cell x30
  obtain ⟨x40, x41, x42, _, _, _⟩ := V4.out
  have l4 : w5.heap.size < w7.heap.size := block_lt_of_cell x40
  obtain ⟨x50, x51, x52, _, _, _⟩ := V5.out
  have l5 : w6.heap.size < w7.heap.size := block_lt_of_cell x50
  go_wp2_with fail
  by_cases hsum : s.size + t.size ≤ 254
  · have hsum' : (s.size : Int) + t.size ≤ 254 := by omega
    clear x00 x01 x02 l0
    clear x10 x11 x12 l1
    clear x20 x21 x22 l2
    clear x30 x31 x32 l3
    clear x40 x41 x42 l4
    clear x50 x51 x52 l5
    have gr : Hid (Below w7.heap.size w7 (w7.alloc (.cells #[.int .u8 19, .int .u64 0, .string s] 38))) := (Below.refl _ _).alloc (Nat.le_refl _) _
    have HX : Hid (Below w.heap.size w (w7.alloc (.cells #[.int .u8 19, .int .u64 0, .string s] 38))) := H.out.trans (gr.out.mono H.out.size)
    have Z : w7.heap.size + 1 = (w7.alloc (.cells #[.int .u8 19, .int .u64 0, .string s] 38)).heap.size := by simp
    have V0 : Hid (VB (w7.alloc (.cells #[.int .u8 19, .int .u64 0, .string s] 38)) (w1.heap.size) 19 0 s) := V0.out.below gr.out
    have V1 : Hid (VB (w7.alloc (.cells #[.int .u8 19, .int .u64 0, .string s] 38)) (w2.heap.size) 19 0 t) := V1.out.below gr.out
    have V2 : Hid (VB (w7.alloc (.cells #[.int .u8 19, .int .u64 0, .string s] 38)) (w3.heap.size) 3 m E0) := V2.out.below gr.out
    have V3 : Hid (VB (w7.alloc (.cells #[.int .u8 19, .int .u64 0, .string s] 38)) (w4.heap.size) 3 ((s.size - m : Nat) : Int) E0) := V3.out.below gr.out
    have V4 : Hid (VB (w7.alloc (.cells #[.int .u8 19, .int .u64 0, .string s] 38)) (w5.heap.size) 19 0 (s.extract 0 m)) := V4.out.below gr.out
    have V5 : Hid (VB (w7.alloc (.cells #[.int .u8 19, .int .u64 0, .string s] 38)) (w6.heap.size) 19 0 (s.extract (s.size - (s.size - m)) s.size)) := V5.out.below gr.out
    have V6 : Hid (VB (w7.alloc (.cells #[.int .u8 19, .int .u64 0, .string s] 38)) w7.heap.size 19 0 s) := ⟨by simp, by simp, by simp, by simp, by simp, by simp⟩
    clear H gr
    rw [Z]
    generalize (w7.alloc (.cells #[.int .u8 19, .int .u64 0, .string s] 38)) = X6 at *
    clear Z
    have gr2 : Hid (Below X6.heap.size X6 (X6.alloc (.cells #[.int .u8 19, .int .u64 0, .string s, .int .u8 19, .int .u64 0, .string t, .int .u8 3, .int .u64 m, .string E0] 38))) := (Below.refl _ _).alloc (Nat.le_refl _) _
    have HY : Hid (Below w.heap.size w (X6.alloc (.cells #[.int .u8 19, .int .u64 0, .string s, .int .u8 19, .int .u64 0, .string t, .int .u8 3, .int .u64 m, .string E0] 38))) := HX.out.trans (gr2.out.mono HX.out.size)
    refine (call_INSERT_y X6.heap.size 3 (X6.alloc (.cells #[.int .u8 19, .int .u64 0, .string s, .int .u8 19, .int .u64 0, .string t, .int .u8 3, .int .u64 m, .string E0] 38)) s t m hs ht hle hsum (AS.out.below HY.out) (tx3_at X6 (tV s) (tV t) (iV m))).mono ?_
    rintro e w8 ⟨rfl, hb⟩
    have H : Hid (Below w.heap.size w w8) := HY.out.trans (hb.mono HY.out.size)
    have V0 : Hid (VB w8 (w1.heap.size) 19 0 s) := (V0.out.below gr2.out).below hb
    have V1 : Hid (VB w8 (w2.heap.size) 19 0 t) := (V1.out.below gr2.out).below hb
    have V2 : Hid (VB w8 (w3.heap.size) 3 m E0) := (V2.out.below gr2.out).below hb
    have V3 : Hid (VB w8 (w4.heap.size) 3 ((s.size - m : Nat) : Int) E0) := (V3.out.below gr2.out).below hb
    have V4 : Hid (VB w8 (w5.heap.size) 19 0 (s.extract 0 m)) := (V4.out.below gr2.out).below hb
    have V5 : Hid (VB w8 (w6.heap.size) 19 0 (s.extract (s.size - (s.size - m)) s.size)) := (V5.out.below gr2.out).below hb
    have V6 : Hid (VB w8 (w7.heap.size) 19 0 s) := (V6.out.below gr2.out).below hb
    clear hb HY HX gr2
    obtain ⟨x00, x01, x02, _, _, _⟩ := V0.out
    have l0 : w1.heap.size < w8.heap.size := block_lt_of_cell x00
    obtain ⟨x10, x11, x12, _, _, _⟩ := V1.out
    have l1 : w2.heap.size < w8.heap.size := block_lt_of_cell x10
    obtain ⟨x20, x21, x22, _, _, _⟩ := V2.out
    have l2 : w3.heap.size < w8.heap.size := block_lt_of_cell x20
    obtain ⟨x30, x31, x32, _, _, _⟩ := V3.out
    have l3 : w4.heap.size < w8.heap.size := block_lt_of_cell x30
    obtain ⟨x40, x41, x42, _, _, _⟩ := V4.out
    have l4 : w5.heap.size < w8.heap.size := block_lt_of_cell x40
    obtain ⟨x50, x51, x52, _, _, _⟩ := V5.out
    have l5 : w6.heap.size < w8.heap.size := block_lt_of_cell x50
    obtain ⟨x60, x61, x62, _, _, _⟩ := V6.out
    have l6 : w7.heap.size < w8.heap.size := block_lt_of_cell x60
    go_wp2_with fail
    clear x00 x01 x02 l0
    clear x10 x11 x12 l1
    clear x20 x21 x22 l2
    clear x30 x31 x32 l3
    clear x40 x41 x42 l4
    clear x50 x51 x52 l5
    clear x60 x61 x62 l6
    have gr : Hid (Below w8.heap.size w8 (w8.alloc (.cells #[.int .u8 19, .int .u64 0, .string (s.extract 0 m ++ t ++ s.extract m s.size)] 38))) := (Below.refl _ _).alloc (Nat.le_refl _) _
    have HX : Hid (Below w.heap.size w (w8.alloc (.cells #[.int .u8 19, .int .u64 0, .string (s.extract 0 m ++ t ++ s.extract m s.size)] 38))) := H.out.trans (gr.out.mono H.out.size)
    have Z : w8.heap.size + 1 = (w8.alloc (.cells #[.int .u8 19, .int .u64 0, .string (s.extract 0 m ++ t ++ s.extract m s.size)] 38)).heap.size := by simp
    have V0 : Hid (VB (w8.alloc (.cells #[.int .u8 19, .int .u64 0, .string (s.extract 0 m ++ t ++ s.extract m s.size)] 38)) (w1.heap.size) 19 0 s) := V0.out.below gr.out
    have V1 : Hid (VB (w8.alloc (.cells #[.int .u8 19, .int .u64 0, .string (s.extract 0 m ++ t ++ s.extract m s.size)] 38)) (w2.heap.size) 19 0 t) := V1.out.below gr.out
    have V2 : Hid (VB (w8.alloc (.cells #[.int .u8 19, .int .u64 0, .string (s.extract 0 m ++ t ++ s.extract m s.size)] 38)) (w3.heap.size) 3 m E0) := V2.out.below gr.out
    have V3 : Hid (VB (w8.alloc (.cells #[.int .u8 19, .int .u64 0, .string (s.extract 0 m ++ t ++ s.extract m s.size)] 38)) (w4.heap.size) 3 ((s.size - m : Nat) : Int) E0) := V3.out.below gr.out
    have V4 : Hid (VB (w8.alloc (.cells #[.int .u8 19, .int .u64 0, .string (s.extract 0 m ++ t ++ s.extract m s.size)] 38)) (w5.heap.size) 19 0 (s.extract 0 m)) := V4.out.below gr.out
    have V5 : Hid (VB (w8.alloc (.cells #[.int .u8 19, .int .u64 0, .string (s.extract 0 m ++ t ++ s.extract m s.size)] 38)) (w6.heap.size) 19 0 (s.extract (s.size - (s.size - m)) s.size)) := V5.out.below gr.out
    have V6 : Hid (VB (w8.alloc (.cells #[.int .u8 19, .int .u64 0, .string (s.extract 0 m ++ t ++ s.extract m s.size)] 38)) (w7.heap.size) 19 0 s) := V6.out.below gr.out
    have V7 : Hid (VB (w8.alloc (.cells #[.int .u8 19, .int .u64 0, .string (s.extract 0 m ++ t ++ s.extract m s.size)] 38)) w8.heap.size 19 0 (s.extract 0 m ++ t ++ s.extract m s.size)) := ⟨by simp, by simp, by simp, by simp, by simp, by simp⟩
    clear H gr
    generalize (w8.alloc (.cells #[.int .u8 19, .int .u64 0, .string (s.extract 0 m ++ t ++ s.extract m s.size)] 38)) = X7 at *
    clear Z
    refine (IntR3 _ t.size _ rfl (by omega)).mono ?_
    rintro e w9 ⟨rfl, hb⟩
    have H : Hid (Below w.heap.size w w9) := HX.out.trans (hb.mono HX.out.size)
    have V0 : Hid (VB w9 (w1.heap.size) 19 0 s) := V0.out.below hb
    have V1 : Hid (VB w9 (w2.heap.size) 19 0 t) := V1.out.below hb
    have V2 : Hid (VB w9 (w3.heap.size) 3 m E0) := V2.out.below hb
    have V3 : Hid (VB w9 (w4.heap.size) 3 ((s.size - m : Nat) : Int) E0) := V3.out.below hb
    have V4 : Hid (VB w9 (w5.heap.size) 19 0 (s.extract 0 m)) := V4.out.below hb
    have V5 : Hid (VB w9 (w6.heap.size) 19 0 (s.extract (s.size - (s.size - m)) s.size)) := V5.out.below hb
    have V6 : Hid (VB w9 (w7.heap.size) 19 0 s) := V6.out.below hb
    have V7 : Hid (VB w9 (w8.heap.size) 19 0 (s.extract 0 m ++ t ++ s.extract m s.size)) := V7.out.below hb
    clear hb HX
    obtain ⟨x00, x01, x02, _, _, _⟩ := V0.out
    have l0 : w1.heap.size < w9.heap.size := block_lt_of_cell x00
    obtain ⟨x10, x11, x12, _, _, _⟩ := V1.out
    have l1 : w2.heap.size < w9.heap.size := block_lt_of_cell x10
    obtain ⟨x20, x21, x22, _, _, _⟩ := V2.out
    have l2 : w3.heap.size < w9.heap.size := block_lt_of_cell x20
    obtain ⟨x30, x31, x32, _, _, _⟩ := V3.out
    have l3 : w4.heap.size < w9.heap.size := block_lt_of_cell x30
    obtain ⟨x40, x41, x42, _, _, _⟩ := V4.out
    have l4 : w5.heap.size < w9.heap.size := block_lt_of_cell x40
    obtain ⟨x50, x51, x52, _, _, _⟩ := V5.out
    have l5 : w6.heap.size < w9.heap.size := block_lt_of_cell x50
    obtain ⟨x60, x61, x62, _, _, _⟩ := V6.out
    have l6 : w7.heap.size < w9.heap.size := block_lt_of_cell x60
    obtain ⟨x70, x71, x72, _, _, _⟩ := V7.out
    have l7 : w8.heap.size < w9.heap.size := block_lt_of_cell x70
    go_wp2_with fail
    clear x00 x01 x02 l0
    clear x10 x11 x12 l1
    clear x20 x21 x22 l2
    clear x30 x31 x32 l3
    clear x40 x41 x42 l4
    clear x50 x51 x52 l5
    clear x60 x61 x62 l6
    clear x70 x71 x72 l7
    have gr : Hid (Below w9.heap.size w9 (w9.alloc (.cells #[.int .u8 3, .int .u64 (t.size : Int), .string E0] 38))) := (Below.refl _ _).alloc (Nat.le_refl _) _
    have HX : Hid (Below w.heap.size w (w9.alloc (.cells #[.int .u8 3, .int .u64 (t.size : Int), .string E0] 38))) := H.out.trans (gr.out.mono H.out.size)
    have Z : w9.heap.size + 1 = (w9.alloc (.cells #[.int .u8 3, .int .u64 (t.size : Int), .string E0] 38)).heap.size := by simp
    have V0 : Hid (VB (w9.alloc (.cells #[.int .u8 3, .int .u64 (t.size : Int), .string E0] 38)) (w1.heap.size) 19 0 s) := V0.out.below gr.out
    have V1 : Hid (VB (w9.alloc (.cells #[.int .u8 3, .int .u64 (t.size : Int), .string E0] 38)) (w2.heap.size) 19 0 t) := V1.out.below gr.out
    have V2 : Hid (VB (w9.alloc (.cells #[.int .u8 3, .int .u64 (t.size : Int), .string E0] 38)) (w3.heap.size) 3 m E0) := V2.out.below gr.out
    have V3 : Hid (VB (w9.alloc (.cells #[.int .u8 3, .int .u64 (t.size : Int), .string E0] 38)) (w4.heap.size) 3 ((s.size - m : Nat) : Int) E0) := V3.out.below gr.out
    have V4 : Hid (VB (w9.alloc (.cells #[.int .u8 3, .int .u64 (t.size : Int), .string E0] 38)) (w5.heap.size) 19 0 (s.extract 0 m)) := V4.out.below gr.out
    have V5 : Hid (VB (w9.alloc (.cells #[.int .u8 3, .int .u64 (t.size : Int), .string E0] 38)) (w6.heap.size) 19 0 (s.extract (s.size - (s.size - m)) s.size)) := V5.out.below gr.out
    have V6 : Hid (VB (w9.alloc (.cells #[.int .u8 3, .int .u64 (t.size : Int), .string E0] 38)) (w7.heap.size) 19 0 s) := V6.out.below gr.out
    have V7 : Hid (VB (w9.alloc (.cells #[.int .u8 3, .int .u64 (t.size : Int), .string E0] 38)) (w8.heap.size) 19 0 (s.extract 0 m ++ t ++ s.extract m s.size)) := V7.out.below gr.out
    have V8 : Hid (VB (w9.alloc (.cells #[.int .u8 3, .int .u64 (t.size : Int), .string E0] 38)) w9.heap.size 3 (t.size : Int) E0) := ⟨by simp, by simp, by simp, by simp, by simp, by simp⟩
    clear H gr
    generalize (w9.alloc (.cells #[.int .u8 3, .int .u64 (t.size : Int), .string E0] 38)) = X8 at *
    clear Z
    refine (IntR3 ((m : Int) + 1) (m + 1) _ (by omega) (by omega)).mono ?_
    rintro e w10 ⟨rfl, hb⟩
    have H : Hid (Below w.heap.size w w10) := HX.out.trans (hb.mono HX.out.size)
    have V0 : Hid (VB w10 (w1.heap.size) 19 0 s) := V0.out.below hb
    have V1 : Hid (VB w10 (w2.heap.size) 19 0 t) := V1.out.below hb
    have V2 : Hid (VB w10 (w3.heap.size) 3 m E0) := V2.out.below hb
    have V3 : Hid (VB w10 (w4.heap.size) 3 ((s.size - m : Nat) : Int) E0) := V3.out.below hb
    have V4 : Hid (VB w10 (w5.heap.size) 19 0 (s.extract 0 m)) := V4.out.below hb
    have V5 : Hid (VB w10 (w6.heap.size) 19 0 (s.extract (s.size - (s.size - m)) s.size)) := V5.out.below hb
    have V6 : Hid (VB w10 (w7.heap.size) 19 0 s) := V6.out.below hb
    have V7 : Hid (VB w10 (w8.heap.size) 19 0 (s.extract 0 m ++ t ++ s.extract m s.size)) := V7.out.below hb
    have V8 : Hid (VB w10 (w9.heap.size) 3 (t.size : Int) E0) := V8.out.below hb
    clear hb HX
    obtain ⟨x00, x01, x02, _, _, _⟩ := V0.out
    have l0 : w1.heap.size < w10.heap.size := block_lt_of_cell x00
    obtain ⟨x10, x11, x12, _, _, _⟩ := V1.out
    have l1 : w2.heap.size < w10.heap.size := block_lt_of_cell x10
    obtain ⟨x20, x21, x22, _, _, _⟩ := V2.out
    have l2 : w3.heap.size < w10.heap.size := block_lt_of_cell x20
    obtain ⟨x30, x31, x32, _, _, _⟩ := V3.out
    have l3 : w4.heap.size < w10.heap.size := block_lt_of_cell x30
    obtain ⟨x40, x41, x42, _, _, _⟩ := V4.out
    have l4 : w5.heap.size < w10.heap.size := block_lt_of_cell x40
    obtain ⟨x50, x51, x52, _, _, _⟩ := V5.out
    have l5 : w6.heap.size < w10.heap.size := block_lt_of_cell x50
    obtain ⟨x60, x61, x62, _, _, _⟩ := V6.out
    have l6 : w7.heap.size < w10.heap.size := block_lt_of_cell x60
    obtain ⟨x70, x71, x72, _, _, _⟩ := V7.out
    have l7 : w8.heap.size < w10.heap.size := block_lt_of_cell x70
    obtain ⟨x80, x81, x82, _, _, _⟩ := V8.out
    have l8 : w9.heap.size < w10.heap.size := block_lt_of_cell x80
    go_wp2_with fail
    clear x00 x01 x02 l0
    clear x10 x11 x12 l1
    clear x20 x21 x22 l2
    clear x30 x31 x32 l3
    clear x40 x41 x42 l4
    clear x50 x51 x52 l5
    clear x60 x61 x62 l6
    clear x70 x71 x72 l7
    clear x80 x81 x82 l8
    have gr : Hid (Below w10.heap.size w10 (w10.alloc (.cells #[.int .u8 3, .int .u64 ((m : Int) + 1), .string E0] 38))) := (Below.refl _ _).alloc (Nat.le_refl _) _
    have HX : Hid (Below w.heap.size w (w10.alloc (.cells #[.int .u8 3, .int .u64 ((m : Int) + 1), .string E0] 38))) := H.out.trans (gr.out.mono H.out.size)
    have Z : w10.heap.size + 1 = (w10.alloc (.cells #[.int .u8 3, .int .u64 ((m : Int) + 1), .string E0] 38)).heap.size := by simp
    have V0 : Hid (VB (w10.alloc (.cells #[.int .u8 3, .int .u64 ((m : Int) + 1), .string E0] 38)) (w1.heap.size) 19 0 s) := V0.out.below gr.out
    have V1 : Hid (VB (w10.alloc (.cells #[.int .u8 3, .int .u64 ((m : Int) + 1), .string E0] 38)) (w2.heap.size) 19 0 t) := V1.out.below gr.out
    have V2 : Hid (VB (w10.alloc (.cells #[.int .u8 3, .int .u64 ((m : Int) + 1), .string E0] 38)) (w3.heap.size) 3 m E0) := V2.out.below gr.out
    have V3 : Hid (VB (w10.alloc (.cells #[.int .u8 3, .int .u64 ((m : Int) + 1), .string E0] 38)) (w4.heap.size) 3 ((s.size - m : Nat) : Int) E0) := V3.out.below gr.out
    have V4 : Hid (VB (w10.alloc (.cells #[.int .u8 3, .int .u64 ((m : Int) + 1), .string E0] 38)) (w5.heap.size) 19 0 (s.extract 0 m)) := V4.out.below gr.out
    have V5 : Hid (VB (w10.alloc (.cells #[.int .u8 3, .int .u64 ((m : Int) + 1), .string E0] 38)) (w6.heap.size) 19 0 (s.extract (s.size - (s.size - m)) s.size)) := V5.out.below gr.out
    have V6 : Hid (VB (w10.alloc (.cells #[.int .u8 3, .int .u64 ((m : Int) + 1), .string E0] 38)) (w7.heap.size) 19 0 s) := V6.out.below gr.out
    have V7 : Hid (VB (w10.alloc (.cells #[.int .u8 3, .int .u64 ((m : Int) + 1), .string E0] 38)) (w8.heap.size) 19 0 (s.extract 0 m ++ t ++ s.extract m s.size)) := V7.out.below gr.out
    have V8 : Hid (VB (w10.alloc (.cells #[.int .u8 3, .int .u64 ((m : Int) + 1), .string E0] 38)) (w9.heap.size) 3 (t.size : Int) E0) := V8.out.below gr.out
    have V9 : Hid (VB (w10.alloc (.cells #[.int .u8 3, .int .u64 ((m : Int) + 1), .string E0] 38)) w10.heap.size 3 ((m : Int) + 1) E0) := ⟨by simp, by simp, by simp, by simp, by simp, by simp⟩
    clear H gr
    rw [Z]
    generalize (w10.alloc (.cells #[.int .u8 3, .int .u64 ((m : Int) + 1), .string E0] 38)) = X9 at *
    clear Z
    have gr2 : Hid (Below X9.heap.size X9 (X9.alloc (.cells #[.int .u8 19, .int .u64 0, .string (s.extract 0 m ++ t ++ s.extract m s.size), .int .u8 3, .int .u64 (t.size : Int), .string E0, .int .u8 3, .int .u64 ((m : Int) + 1), .string E0] 38))) := (Below.refl _ _).alloc (Nat.le_refl _) _
    have HY : Hid (Below w.heap.size w (X9.alloc (.cells #[.int .u8 19, .int .u64 0, .string (s.extract 0 m ++ t ++ s.extract m s.size), .int .u8 3, .int .u64 (t.size : Int), .string E0, .int .u8 3, .int .u64 ((m : Int) + 1), .string E0] 38))) := HX.out.trans (gr2.out.mono HX.out.size)
    refine (delete_back X9.heap.size (X9.alloc (.cells #[.int .u8 19, .int .u64 0, .string (s.extract 0 m ++ t ++ s.extract m s.size), .int .u8 3, .int .u64 (t.size : Int), .string E0, .int .u8 3, .int .u64 ((m : Int) + 1), .string E0] 38)) s t m hs ht hle hsum (AS.out.below HY.out) (tx3_at X9 (tV (s.extract 0 m ++ t ++ s.extract m s.size)) (iV t.size) (⟨3, (m : Int) + 1, E0⟩))).mono ?_
    rintro e w11 ⟨rfl, hb⟩
    have H : Hid (Below w.heap.size w w11) := HY.out.trans (hb.mono HY.out.size)
    have V0 : Hid (VB w11 (w1.heap.size) 19 0 s) := (V0.out.below gr2.out).below hb
    have V1 : Hid (VB w11 (w2.heap.size) 19 0 t) := (V1.out.below gr2.out).below hb
    have V2 : Hid (VB w11 (w3.heap.size) 3 m E0) := (V2.out.below gr2.out).below hb
    have V3 : Hid (VB w11 (w4.heap.size) 3 ((s.size - m : Nat) : Int) E0) := (V3.out.below gr2.out).below hb
    have V4 : Hid (VB w11 (w5.heap.size) 19 0 (s.extract 0 m)) := (V4.out.below gr2.out).below hb
    have V5 : Hid (VB w11 (w6.heap.size) 19 0 (s.extract (s.size - (s.size - m)) s.size)) := (V5.out.below gr2.out).below hb
    have V6 : Hid (VB w11 (w7.heap.size) 19 0 s) := (V6.out.below gr2.out).below hb
    have V7 : Hid (VB w11 (w8.heap.size) 19 0 (s.extract 0 m ++ t ++ s.extract m s.size)) := (V7.out.below gr2.out).below hb
    have V8 : Hid (VB w11 (w9.heap.size) 3 (t.size : Int) E0) := (V8.out.below gr2.out).below hb
    have V9 : Hid (VB w11 (w10.heap.size) 3 ((m : Int) + 1) E0) := (V9.out.below gr2.out).below hb
    clear hb HY HX gr2
    obtain ⟨x00, x01, x02, _, _, _⟩ := V0.out
    have l0 : w1.heap.size < w11.heap.size := block_lt_of_cell x00
    obtain ⟨x10, x11, x12, _, _, _⟩ := V1.out
    have l1 : w2.heap.size < w11.heap.size := block_lt_of_cell x10
    obtain ⟨x20, x21, x22, _, _, _⟩ := V2.out
    have l2 : w3.heap.size < w11.heap.size := block_lt_of_cell x20
    obtain ⟨x30, x31, x32, _, _, _⟩ := V3.out
    have l3 : w4.heap.size < w11.heap.size := block_lt_of_cell x30
    obtain ⟨x40, x41, x42, _, _, _⟩ := V4.out
    have l4 : w5.heap.size < w11.heap.size := block_lt_of_cell x40
    obtain ⟨x50, x51, x52, _, _, _⟩ := V5.out
    have l5 : w6.heap.size < w11.heap.size := block_lt_of_cell x50
    obtain ⟨x60, x61, x62, _, _, _⟩ := V6.out
    have l6 : w7.heap.size < w11.heap.size := block_lt_of_cell x60
    obtain ⟨x70, x71, x72, _, _, _⟩ := V7.out
    have l7 : w8.heap.size < w11.heap.size := block_lt_of_cell x70
    obtain ⟨x80, x81, x82, _, _, _⟩ := V8.out
    have l8 : w9.heap.size < w11.heap.size := block_lt_of_cell x80
    obtain ⟨x90, x91, x92, _, _, _⟩ := V9.out
    have l9 : w10.heap.size < w11.heap.size := block_lt_of_cell x90
    go_wp2
    go_ret
    exact ⟨by simp, H.out.alloc H.out.size _⟩
  · have hsum' : ¬ (s.size : Int) + t.size ≤ 254 := by omega
    clear x00 x01 x02 l0
    clear x10 x11 x12 l1
    clear x20 x21 x22 l2
    clear x30 x31 x32 l3
    clear x40 x41 x42 l4
    clear x50 x51 x52 l5
    have gr : Hid (Below w7.heap.size w7 (w7.alloc (.cells #[.int .u8 19, .int .u64 0, .string s] 38))) := (Below.refl _ _).alloc (Nat.le_refl _) _
    have HX : Hid (Below w.heap.size w (w7.alloc (.cells #[.int .u8 19, .int .u64 0, .string s] 38))) := H.out.trans (gr.out.mono H.out.size)
    have Z : w7.heap.size + 1 = (w7.alloc (.cells #[.int .u8 19, .int .u64 0, .string s] 38)).heap.size := by simp
    have V0 : Hid (VB (w7.alloc (.cells #[.int .u8 19, .int .u64 0, .string s] 38)) (w1.heap.size) 19 0 s) := V0.out.below gr.out
    have V1 : Hid (VB (w7.alloc (.cells #[.int .u8 19, .int .u64 0, .string s] 38)) (w2.heap.size) 19 0 t) := V1.out.below gr.out
    have V2 : Hid (VB (w7.alloc (.cells #[.int .u8 19, .int .u64 0, .string s] 38)) (w3.heap.size) 3 m E0) := V2.out.below gr.out
    have V3 : Hid (VB (w7.alloc (.cells #[.int .u8 19, .int .u64 0, .string s] 38)) (w4.heap.size) 3 ((s.size - m : Nat) : Int) E0) := V3.out.below gr.out
    have V4 : Hid (VB (w7.alloc (.cells #[.int .u8 19, .int .u64 0, .string s] 38)) (w5.heap.size) 19 0 (s.extract 0 m)) := V4.out.below gr.out
    have V5 : Hid (VB (w7.alloc (.cells #[.int .u8 19, .int .u64 0, .string s] 38)) (w6.heap.size) 19 0 (s.extract (s.size - (s.size - m)) s.size)) := V5.out.below gr.out
    have V6 : Hid (VB (w7.alloc (.cells #[.int .u8 19, .int .u64 0, .string s] 38)) w7.heap.size 19 0 s) := ⟨by simp, by simp, by simp, by simp, by simp, by simp⟩
    clear H gr
    rw [Z]
    generalize (w7.alloc (.cells #[.int .u8 19, .int .u64 0, .string s] 38)) = X6 at *
    clear Z
    have gr2 : Hid (Below X6.heap.size X6 (X6.alloc (.cells #[.int .u8 19, .int .u64 0, .string s, .int .u8 19, .int .u64 0, .string t, .int .u8 3, .int .u64 m, .string E0] 38))) := (Below.refl _ _).alloc (Nat.le_refl _) _
    have HY : Hid (Below w.heap.size w (X6.alloc (.cells #[.int .u8 19, .int .u64 0, .string s, .int .u8 19, .int .u64 0, .string t, .int .u8 3, .int .u64 m, .string E0] 38))) := HX.out.trans (gr2.out.mono HX.out.size)
    refine (call_INSERT_n X6.heap.size 3 (X6.alloc (.cells #[.int .u8 19, .int .u64 0, .string s, .int .u8 19, .int .u64 0, .string t, .int .u8 3, .int .u64 m, .string E0] 38)) s t m hs ht hle hsum (AS.out.below HY.out) (tx3_at X6 (tV s) (tV t) (iV m))).mono ?_
    rintro e w8 ⟨rfl, hb⟩
    have H : Hid (Below w.heap.size w w8) := HY.out.trans (hb.mono HY.out.size)
    have V0 : Hid (VB w8 (w1.heap.size) 19 0 s) := (V0.out.below gr2.out).below hb
    have V1 : Hid (VB w8 (w2.heap.size) 19 0 t) := (V1.out.below gr2.out).below hb
    have V2 : Hid (VB w8 (w3.heap.size) 3 m E0) := (V2.out.below gr2.out).below hb
    have V3 : Hid (VB w8 (w4.heap.size) 3 ((s.size - m : Nat) : Int) E0) := (V3.out.below gr2.out).below hb
    have V4 : Hid (VB w8 (w5.heap.size) 19 0 (s.extract 0 m)) := (V4.out.below gr2.out).below hb
    have V5 : Hid (VB w8 (w6.heap.size) 19 0 (s.extract (s.size - (s.size - m)) s.size)) := (V5.out.below gr2.out).below hb
    have V6 : Hid (VB w8 (w7.heap.size) 19 0 s) := (V6.out.below gr2.out).below hb
    clear hb HY HX gr2
    obtain ⟨x00, x01, x02, _, _, _⟩ := V0.out
    have l0 : w1.heap.size < w8.heap.size := block_lt_of_cell x00
    obtain ⟨x10, x11, x12, _, _, _⟩ := V1.out
    have l1 : w2.heap.size < w8.heap.size := block_lt_of_cell x10
    obtain ⟨x20, x21, x22, _, _, _⟩ := V2.out
    have l2 : w3.heap.size < w8.heap.size := block_lt_of_cell x20
    obtain ⟨x30, x31, x32, _, _, _⟩ := V3.out
    have l3 : w4.heap.size < w8.heap.size := block_lt_of_cell x30
    obtain ⟨x40, x41, x42, _, _, _⟩ := V4.out
    have l4 : w5.heap.size < w8.heap.size := block_lt_of_cell x40
    obtain ⟨x50, x51, x52, _, _, _⟩ := V5.out
    have l5 : w6.heap.size < w8.heap.size := block_lt_of_cell x50
    obtain ⟨x60, x61, x62, _, _, _⟩ := V6.out
    have l6 : w7.heap.size < w8.heap.size := block_lt_of_cell x60
    go_wp2
    go_ret
    exact ⟨rfl, H.out.alloc H.out.size _⟩
theorem texts_walk (hs : s.size ≤ maxLen) (ht : t.size ≤ maxLen) (hn : -9223372036854775808 ≤ n ∧ n ≤ 9223372036854775807) (hT : Asc w) :
    Calls Tryz.prog 5 #[.string s, .string t, .int .i64 n] w fun e w' => e = .returned (.bool true) ∧ Below w.heap.size w w' := by
  by_cases h : s.size ≤ 254 ∧ t.size ≤ 254
  · exact texts_in s t n w h.1 h.2 hn hT
  · exact texts_x s t n w hs ht h
end
end Go.Proofs.YtkanhbokdjppoaaGreatDoor
