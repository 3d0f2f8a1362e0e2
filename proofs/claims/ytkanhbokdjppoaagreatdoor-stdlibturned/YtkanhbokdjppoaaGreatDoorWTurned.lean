/- The walk of StdlibTurned; no statement of the seat is proved here. -/
import Derived.Test.YtkanhbokdjppoaaGreatDoorStdH
import Derived.Test.YtkanhbokdjppoaaGreatDoorIntRV
namespace Go.Proofs.YtkanhbokdjppoaaGreatDoor
set_option linter.unusedVariables false
open Go.RowKit
/-- Two values. -/
def tw (u v : Vl) (i : Nat) : Vl := if i = 0 then u else v
theorem tw_at (w : World) (u v : Vl) : VsAt (w.alloc (.cells #[.int .u8 u.k, .int .u64 u.b, .string u.s, .int .u8 v.k, .int .u64 v.b, .string v.s] 38)) ⟨w.heap.size, 0, none⟩ 2 (tw u v) := by
  intro i hi
  match i, hi with
  | 0, _ => exact ⟨by simp [tw, Addr.add], by simp [tw, Addr.add], by simp [tw, Addr.add]⟩
  | 1, _ => exact ⟨by simp [tw, Addr.add], by simp [tw, Addr.add], by simp [tw, Addr.add]⟩
theorem int4_fit {n : Int} (h : -9223372036854775808 ≤ n ∧ n < 9223372036854775808) (f : fitOk 4 n = true) : may3 4 (n % 18446744073709551616) E0 = true ∧ num 4 (n % 18446744073709551616) = n := by
  constructor
  · rw [← fit_m (k := 4) (by omega) (by omega) h]; exact f
  · rw [num_s (by omega)]; unfold wrap64; omega
theorem RowR_is (k : Int) (w : World) (p : Bool) (h : rowK k = p) : Calls Tryz.prog 21 #[.int .u8 k] w fun e w' => e = .returned (.bool p) ∧ w' = w := by subst h; exact RowR_of k w
section
variable (k b n kc bc fc : Int) (s sc : ByteArray) (w : World)
set_option maxHeartbeats 4000000 in
theorem turned_no (hk : 0 ≤ k ∧ k < 256) (h0 : 0 ≤ b) (h1 : b < 18446744073709551616) (hs : s.size ≤ maxLen)
    (hI : ∀ w, Calls Tryz.prog 18 #[.int .u8 4, .int .i64 n] w fun e w' => e = .returned (.tuple #[V kc bc sc, .int .i64 fc]) ∧ Below w.heap.size w w')
    (hC : ∀ W g, Below w.heap.size w W → VsAt W ⟨g, 0, none⟩ 2 (tw ⟨k, b, s⟩ ⟨kc, bc, sc⟩) → Calls Tryz.prog 19 #[.string nROL, .slice (some ⟨g, 0, none⟩) 2 2] W fun e w' => e = .returned (.tuple #[V 0 0 E0, .bool false]) ∧ Below W.heap.size W w')
    (p1 p2 p3 p4 : Bool) (e1 : (fc != 0) = p1) (e2 : may3 k b s = p2) (e3 : rowK k = p3) (e4 : decide (n < 0) = p4) (hp : (p1 || !p2 || !p3 || p4) = true) :
    Calls Tryz.prog 6 #[V k b s, .int .i64 n] w fun e w' => e = .returned (.bool true) ∧ Below w.heap.size w w' := by
  have HI : Hid _ := hI
  have HC : Hid _ := hC
  have E2 : Hid _ := e2
  have E3 : Hid _ := e3
  have e1' : (fc == 0) = !p1 := by rw [← e1]; simp [bne]
  clear hI hC e2 e3
  go_enter Tryz.func6, Tryz.ntmps6
  go_wp2_with (first | (go_at_call 18; refine (HI.out _).mono ?_; rintro e w1 ⟨rfl, hb⟩; have HB1 : Hid (Below w.heap.size w w1) := ((Below.refl _ _).alloc (Nat.le_refl _) _).trans (hb.mono (by simp)); have VA : Hid (VB w1 w.heap.size k b s) := VB.below (w := w.alloc (.cells #[.int .u8 k, .int .u64 b, .string s] 38)) ⟨by simp, by simp, by simp, by simp, by simp, by simp⟩ hb; obtain ⟨q0, q1, q2, _, _, _⟩ := VA.out; have z1 : w.heap.size < w1.heap.size := block_lt_of_cell q0; clear hb))
  have G2 : Hid (Below w1.heap.size w1 ((w1.alloc (.cells #[.int .u8 kc, .int .u64 bc, .string sc] 38)).alloc (.cells #[.int .u8 k, .int .u64 b, .string s, .int .u8 kc, .int .u64 bc, .string sc] 38))) := ((Below.refl _ _).alloc (Nat.le_refl _) _).alloc (by simp) _
  have B2 : Hid (Below w.heap.size w ((w1.alloc (.cells #[.int .u8 kc, .int .u64 bc, .string sc] 38)).alloc (.cells #[.int .u8 k, .int .u64 b, .string s, .int .u8 kc, .int .u64 bc, .string sc] 38))) := HB1.out.trans (G2.out.mono HB1.out.size)
  refine (HC.out _ (w1.heap.size + 1) B2.out (by have := tw_at (w1.alloc (.cells #[.int .u8 kc, .int .u64 bc, .string sc] 38)) ⟨k, b, s⟩ ⟨kc, bc, sc⟩; rwa [World.size_alloc] at this)).mono ?_
  rintro e w3 ⟨rfl, hb3⟩
  have B3 : Hid (Below w.heap.size w w3) := B2.out.trans (hb3.mono B2.out.size)
  have V3 : Hid (VB w3 w.heap.size k b s) := (VA.out.below G2.out).below hb3
  clear hb3 q0 q1 q2 HC HI G2 B2 VA
  obtain ⟨q0, q1, q2, _, _, _⟩ := V3.out
  have z3 : w.heap.size < w3.heap.size := block_lt_of_cell q0
  cases p1
  · have e1 : (fc == 0) = true := e1'
    cases p2
    · go_wp2_with (first | (go_at_call 20; refine (MayR_is _ _ _ _ false h0 h1 hk hs E2.out).mono ?_; rintro e w4 ⟨rfl, hb4⟩; have B4 : Hid (Below w.heap.size w w4) := (B3.out.alloc B3.out.size _).trans (hb4.mono (by have := B3.out.size; simp; omega)); clear hb4))
      go_ret
      exact ⟨rfl, B4.out⟩
    · cases p3
      · go_wp2_with (first | (go_at_call 20; refine (MayR_is _ _ _ _ true h0 h1 hk hs E2.out).mono ?_; rintro e w4 ⟨rfl, hb4⟩; have B4 : Hid (Below w.heap.size w w4) := (B3.out.alloc B3.out.size _).trans (hb4.mono (by have := B3.out.size; simp; omega)); obtain ⟨x0, x1, x2, _, _, _⟩ := VB.below (V3.out.below ((Below.refl _ _).alloc (Nat.le_refl _) _)) hb4; clear hb4) | (go_at_call 21; refine (RowR_is _ _ false E3.out).mono ?_; rintro e w5 ⟨rfl, rfl⟩))
        go_ret
        exact ⟨rfl, B4.out⟩
      · have e4 : n < 0 := by
          have : p4 = true := by simpa using hp
          rw [this] at e4; exact of_decide_eq_true e4
        go_wp2_with (first | (go_at_call 20; refine (MayR_is _ _ _ _ true h0 h1 hk hs E2.out).mono ?_; rintro e w4 ⟨rfl, hb4⟩; have B4 : Hid (Below w.heap.size w w4) := (B3.out.alloc B3.out.size _).trans (hb4.mono (by have := B3.out.size; simp; omega)); obtain ⟨x0, x1, x2, _, _, _⟩ := VB.below (V3.out.below ((Below.refl _ _).alloc (Nat.le_refl _) _)) hb4; clear hb4) | (go_at_call 21; refine (RowR_is _ _ true E3.out).mono ?_; rintro e w5 ⟨rfl, rfl⟩))
        go_ret
        exact ⟨rfl, B4.out⟩
  · have e1 : (fc == 0) = false := e1'
    go_wp2_with fail
    go_ret
    exact ⟨rfl, B3.out.alloc B3.out.size _⟩
set_option maxHeartbeats 4000000 in
theorem turned_yes (hk : 0 ≤ k ∧ k < 256) (h0 : 0 ≤ b) (h1 : b < 18446744073709551616) (hs : s.size ≤ maxLen) (xb : Int)
    (hI : ∀ w, Calls Tryz.prog 18 #[.int .u8 4, .int .i64 n] w fun e w' => e = .returned (.tuple #[V kc bc sc, .int .i64 0]) ∧ Below w.heap.size w w')
    (hC : ∀ W g, Below w.heap.size w W → VsAt W ⟨g, 0, none⟩ 2 (tw ⟨k, b, s⟩ ⟨kc, bc, sc⟩) → Calls Tryz.prog 19 #[.string nROL, .slice (some ⟨g, 0, none⟩) 2 2] W fun e w' => e = .returned (.tuple #[V k xb s, .bool true]) ∧ Below W.heap.size W w')
    (hD : ∀ W g, Below w.heap.size w W → VsAt W ⟨g, 0, none⟩ 2 (tw ⟨k, xb, s⟩ ⟨kc, bc, sc⟩) → Calls Tryz.prog 19 #[.string nROR, .slice (some ⟨g, 0, none⟩) 2 2] W fun e w' => e = .returned (.tuple #[V k b s, .bool true]) ∧ Below W.heap.size W w')
    (e2 : may3 k b s = true) (e3 : rowK k = true) (e4 : ¬ n < 0) :
    Calls Tryz.prog 6 #[V k b s, .int .i64 n] w fun e w' => e = .returned (.bool true) ∧ Below w.heap.size w w' := by
  have HI : Hid _ := hI
  have HC : Hid _ := hC
  have HD : Hid _ := hD
  have E2 : Hid _ := e2
  have E3 : Hid _ := e3
  clear hI hC hD e2 e3
  go_enter Tryz.func6, Tryz.ntmps6
  go_wp2_with (first | (go_at_call 18; refine (HI.out _).mono ?_; rintro e w1 ⟨rfl, hb⟩; have HB1 : Hid (Below w.heap.size w w1) := ((Below.refl _ _).alloc (Nat.le_refl _) _).trans (hb.mono (by simp)); have VA : Hid (VB w1 w.heap.size k b s) := VB.below (w := w.alloc (.cells #[.int .u8 k, .int .u64 b, .string s] 38)) ⟨by simp, by simp, by simp, by simp, by simp, by simp⟩ hb; obtain ⟨q0, q1, q2, _, _, _⟩ := VA.out; have z1 : w.heap.size < w1.heap.size := block_lt_of_cell q0; clear hb))
  have G1 : Hid (VB (w1.alloc (.cells #[.int .u8 kc, .int .u64 bc, .string sc] 38)) w1.heap.size kc bc sc) := ⟨by simp, by simp, by simp, by simp, by simp, by simp⟩
  have G2 : Hid (Below w1.heap.size w1 ((w1.alloc (.cells #[.int .u8 kc, .int .u64 bc, .string sc] 38)).alloc (.cells #[.int .u8 k, .int .u64 b, .string s, .int .u8 kc, .int .u64 bc, .string sc] 38))) := ((Below.refl _ _).alloc (Nat.le_refl _) _).alloc (by simp) _
  have B2 : Hid (Below w.heap.size w ((w1.alloc (.cells #[.int .u8 kc, .int .u64 bc, .string sc] 38)).alloc (.cells #[.int .u8 k, .int .u64 b, .string s, .int .u8 kc, .int .u64 bc, .string sc] 38))) := HB1.out.trans (G2.out.mono HB1.out.size)
  refine (HC.out _ (w1.heap.size + 1) B2.out (by have := tw_at (w1.alloc (.cells #[.int .u8 kc, .int .u64 bc, .string sc] 38)) ⟨k, b, s⟩ ⟨kc, bc, sc⟩; rwa [World.size_alloc] at this)).mono ?_
  rintro e w3 ⟨rfl, hb3⟩
  have B3 : Hid (Below w.heap.size w w3) := B2.out.trans (hb3.mono B2.out.size)
  have V3 : Hid (VB w3 w.heap.size k b s) := (VA.out.below G2.out).below hb3
  have N3 : Hid (VB w3 w1.heap.size kc bc sc) := (G1.out.below ((Below.refl _ _).alloc (Nat.le_refl _) _)).below hb3
  clear hb3 q0 q1 q2 HC HI G1 G2 B2 VA
  obtain ⟨q0, q1, q2, _, _, _⟩ := V3.out
  have z3 : w.heap.size < w3.heap.size := block_lt_of_cell q0
  have X3 : Hid (VB (w3.alloc (.cells #[.int .u8 k, .int .u64 xb, .string s] 38)) w3.heap.size k xb s) := ⟨by simp, by simp, by simp, by simp, by simp, by simp⟩
  go_wp2_with (first | (go_at_call 20; refine (MayR_is _ _ _ _ true h0 h1 hk hs E2.out).mono ?_; rintro e w4 ⟨rfl, hb4⟩; have B4 : Hid (Below w.heap.size w w4) := (B3.out.alloc B3.out.size _).trans (hb4.mono (by have := B3.out.size; simp; omega)); have V4 : Hid (VB w4 w.heap.size k b s) := VB.below (V3.out.below ((Below.refl _ _).alloc (Nat.le_refl _) _)) hb4; have N4 : Hid (VB w4 w1.heap.size kc bc sc) := VB.below (N3.out.below ((Below.refl _ _).alloc (Nat.le_refl _) _)) hb4; have X4 : Hid (VB w4 w3.heap.size k xb s) := X3.out.below hb4; obtain ⟨x0, x1, x2, _, _, _⟩ := V4.out; obtain ⟨y0, y1, y2, _, _, _⟩ := X4.out; obtain ⟨i0, i1, i2, _, _, _⟩ := N4.out; clear hb4) | (go_at_call 21; refine (RowR_is _ _ true E3.out).mono ?_; rintro e w5 ⟨rfl, rfl⟩))
  have B6 : Hid (Below w.heap.size w (w5.alloc (.cells #[.int .u8 k, .int .u64 xb, .string s, .int .u8 kc, .int .u64 bc, .string sc] 38))) := B4.out.alloc B4.out.size _
  refine (HD.out _ w5.heap.size B6.out (tw_at w5 ⟨k, xb, s⟩ ⟨kc, bc, sc⟩)).mono ?_
  rintro e w7 ⟨rfl, hb7⟩
  have B7 : Hid (Below w.heap.size w w7) := B6.out.trans (hb7.mono B6.out.size)
  have V7 : Hid (VB w7 w.heap.size k b s) := (V4.out.below ((Below.refl _ _).alloc (Nat.le_refl _) _)).below hb7
  clear hb7 x0 x1 x2 y0 y1 y2 i0 i1 i2 q0 q1 q2
  obtain ⟨m0, m1, m2, _, _, _⟩ := V7.out
  have z7 : w.heap.size < w7.heap.size := block_lt_of_cell m0
  go_wp2
  go_ret
  exact ⟨by simp, B7.out.alloc B7.out.size _⟩
theorem turned_walk (hk : 0 ≤ k ∧ k < 256) (h0 : 0 ≤ b) (h1 : b < 18446744073709551616) (hs : s.size ≤ maxLen) (hn : -9223372036854775808 ≤ n ∧ n < 9223372036854775808) (ht : Asc w) :
    Calls Tryz.prog 6 #[V k b s, .int .i64 n] w fun e w' => e = .returned (.bool true) ∧ Below w.heap.size w w' := by
  have ok : ∀ c : Int, 0 ≤ c → c < 18446744073709551616 → ∀ u v : Vl, VlOk u → VlOk v → ∀ i, i < 2 → VlOk (tw u v i) := by
    intro c _ _ u v hu hv i _; unfold tw; split <;> assumption
  cases f : fitOk 4 n
  · have HI : ∀ w, Calls Tryz.prog 18 #[.int .u8 4, .int .i64 n] w fun e w' => e = .returned (.tuple #[V 0 0 E0, .int .i64 1]) ∧ Below w.heap.size w w' := by
      intro w; have := IntR_of 4 n w (by omega) hn; unfold intR at this; rw [if_pos (by omega), if_neg (by rw [f]; decide)] at this; exact this
    exact turned_no k b n 0 0 1 s E0 w hk h0 h1 hs HI (fun W g hb hv => call_ROL_no g 2 _ W hv (ht.below hb) (by simp [tw, intK])) true _ _ _ rfl rfl rfl rfl (by simp)
  · obtain ⟨m4, n4⟩ := int4_fit hn f
    have HI : ∀ w, Calls Tryz.prog 18 #[.int .u8 4, .int .i64 n] w fun e w' => e = .returned (.tuple #[V 4 (n % 18446744073709551616) E0, .int .i64 0]) ∧ Below w.heap.size w w' := by
      intro w; have := IntR_of 4 n w (by omega) hn; unfold intR at this; rw [if_pos (by omega), if_pos f] at this; exact this
    have c0 : 0 ≤ n % 18446744073709551616 := by omega
    have c1 : n % 18446744073709551616 < 18446744073709551616 := by omega
    generalize n % 18446744073709551616 = c at *
    have v0 : VlOk ⟨k, b, s⟩ := ⟨hk.1, hk.2, h0, h1, hs⟩
    have v1 : VlOk ⟨4, c, E0⟩ := ⟨by show (0:Int) ≤ 4; omega, by show (4:Int) < 256; omega, c0, c1, (by decide : E0.size ≤ maxLen)⟩
    cases r : rowK k
    · exact turned_no k b n 4 c 0 s E0 w hk h0 h1 hs HI (fun W g hb hv => call_ROL_no g 2 _ W hv (ht.below hb) (by simp [tw, r])) false _ false _ rfl rfl r rfl (by simp)
    · cases m : may3 k b s
      · exact turned_no k b n 4 c 0 s E0 w hk h0 h1 hs HI (fun W g hb hv => call_ROL_bad g 2 _ W hv (ok c c0 c1 _ _ v0 v1) (ht.below hb) (by simpa [tw] using r) (by simp [tw, intK]) 0 (by decide) (by simpa [tw] using m)) false false true _ rfl m r rfl (by simp)
      · have hm : ∀ i, i < 2 → may3 (tw ⟨k, b, s⟩ ⟨4, c, E0⟩ i).k (tw ⟨k, b, s⟩ ⟨4, c, E0⟩ i).b (tw ⟨k, b, s⟩ ⟨4, c, E0⟩ i).s = true := by
          intro i hi
          match i, hi with
          | 0, _ => exact m
          | 1, _ => exact m4
        by_cases neg : n < 0
        · exact turned_no k b n 4 c 0 s E0 w hk h0 h1 hs HI (fun W g hb hv => call_ROL_g g 2 _ W hv (ok c c0 c1 _ _ v0 v1) (ht.below hb) r rfl hm 0 0 3 E0
            (fun W' hb' => turnLeft_neg g 2 k b 4 c 0 s E0 W' (A2.vs (hv.below hb')) c0 c1 (by omega) (by decide) m4 (by rw [n4]; exact neg))) false true true true rfl m r (decide_eq_true neg) rfl
        · obtain ⟨t0, t1, tm⟩ := tl_may k b c s (row_or r) h0 h1 m
          have v0' : VlOk ⟨k, tlB k b c, s⟩ := ⟨hk.1, hk.2, t0, t1, hs⟩
          have hm' : ∀ i, i < 2 → may3 (tw ⟨k, tlB k b c, s⟩ ⟨4, c, E0⟩ i).k (tw ⟨k, tlB k b c, s⟩ ⟨4, c, E0⟩ i).b (tw ⟨k, tlB k b c, s⟩ ⟨4, c, E0⟩ i).s = true := by
            intro i hi
            match i, hi with
            | 0, _ => exact tm
            | 1, _ => exact m4
          refine turned_yes k b n 4 c s E0 w hk h0 h1 hs (tlB k b c) HI (fun W g hb hv => call_ROL_g g 2 _ W hv (ok c c0 c1 _ _ v0 v1) (ht.below hb) r rfl hm k (tlB k b c) 0 s
            (fun W' hb' => turnLeft_yes g 2 k b 4 c 0 s E0 W' (row_or r) (A2.vs (hv.below hb')) h0 h1 m c0 c1 (by omega) (by decide) m4 (by rw [n4]; exact neg))) (fun W g hb hv => ?_) m r neg
          have := call_ROR_g g 2 _ W hv (ok c c0 c1 _ _ v0' v1) (ht.below hb) r rfl hm' k (trB k (tlB k b c) c) 0 s
            (fun W' hb' => turnRight_yes g 2 k (tlB k b c) 4 c 0 s E0 W' (row_or r) (A2.vs (hv.below hb')) t0 t1 tm c0 c1 (by omega) (by decide) m4 (by rw [n4]; exact neg))
          rw [turn_back k b c s (row_or r) h0 h1 m] at this
          exact this
end
end Go.Proofs.YtkanhbokdjppoaaGreatDoor
