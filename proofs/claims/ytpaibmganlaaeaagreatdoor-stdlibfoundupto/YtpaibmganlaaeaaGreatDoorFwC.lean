/- What LIMIT gives; no statement of the seat is proved here. -/
import Derived.Test.YtpaibmganlaaeaaGreatDoorFwB
import Derived.Deep.RegionHeld3
import Derived.Handy
namespace Go.Proofs.YtpaibmganlaaeaaGreatDoor
set_option linter.unusedVariables false
open Go.RowKit
section
variable (op k b c : Int) (s t : ByteArray) (w : World)
set_option maxHeartbeats 1000000 in
theorem holdsS_of (ho : 9 ≤ op ∧ op ≤ 14) (h0 : 0 ≤ b) (h1 : b < 18446744073709551616) (hk : 0 ≤ k ∧ k < 256) (hs : s.size ≤ maxLen) (g0 : 0 ≤ c) (g1 : c < 18446744073709551616) (gs : t.size ≤ maxLen) (m : may3 k b s = true) (n : may3 k c t = true) :
    Calls Tryz.prog 91 #[.int .i64 op, V k b s, V k c t] w fun e w' => e = .returned (.bool (hB op k b c s t)) ∧ Below w.heap.size w w' := by
  have R : Hid _ := fun w => Reckon_c op k b c s t w ho h0 h1 hk hs g0 g1 gs m n
  have B : Hid (∀ w, Calls Tryz.prog 92 #[.bool true] w fun e w' => e = .returned (V 1 1 E0) ∧ Below w.heap.size w w') := Bool_of true
  clear m n
  have T1 : tb true = 1 := rfl
  have T0 : tb false = 0 := rfl
  cases p : hB op k b c s t
  all_goals
    have e : Hid (hB op k b c s t = _) := p
    clear p
    go_enter Tryz.func91, Tryz.ntmps91
    go_wp2_with (first | (go_at_call 86; refine (R.out _).mono ?_; rintro e w1 ⟨rfl, hb⟩; rw [e.out]; (first | rw [T0] | rw [T1]); have HB : Hid _ := hb; clear hb))
    refine wp_region_sub2 (by kernel_rfl) (by kernel_rfl) ?_
    intro cx
    repeat (first | go_big_quiet_skip | (go_big_quiet_want; go_big_quiet_op; first | go_big_quiet_on | (refine ⟨_, fun _ => rfl, ?_⟩; go_big_quiet_on) | go_big_quiet_call (first | (go_at_call 92; exact calls_sub (B.out _)))))
    refine wpQuiet_nil ?_
    rintro _ ⟨y, rfl⟩
    have Y : Hid (Below w.heap.size w y.w) := ((((Below.refl _ _).alloc (Nat.le_refl _) _).alloc (by simp) _).trans (HB.out.mono (by simp; omega))).trans ((((Below.refl _ _).alloc (Nat.le_refl _) _).trans (y.h.mono (by simp))).mono (by have := HB.out.size; simp at this; omega))
    clear cx
    go_wp2
    go_ret
    exact ⟨rfl, Y.out⟩
theorem holds_is (p : Bool) (ho : 9 ≤ op ∧ op ≤ 14) (h0 : 0 ≤ b) (h1 : b < 18446744073709551616) (hk : 0 ≤ k ∧ k < 256) (hs : s.size ≤ maxLen) (g0 : 0 ≤ c) (g1 : c < 18446744073709551616) (gs : t.size ≤ maxLen) (m : may3 k b s = true) (n : may3 k c t = true) (hp : hB op k b c s t = p) :
    Calls Tryz.prog 91 #[.int .i64 op, V k b s, V k c t] w fun e w' => e = .returned (.bool p) ∧ Below w.heap.size w w' := by
  subst hp; exact holdsS_of op k b c s t w ho h0 h1 hk hs g0 g1 gs m n
end
/-- Values of one kind that may be. -/
structure Fam (n : Nat) (v : Nat → Vl) (K : Int) : Prop where
  k : ∀ i, i < n → (v i).k = K
  o : ∀ i, i < n → VlOk (v i)
  m : ∀ i, i < n → may3 K (v i).b (v i).s = true
/-- Does a comparison hold of two of them? -/
def cmF (op K : Int) (v : Nat → Vl) (i j : Nat) : Bool := hB op K (v i).b (v j).b (v i).s (v j).s
theorem Fam.holds {n : Nat} {v : Nat → Vl} {K : Int} (F : Fam n v K) (op : Int) (i j : Nat) (hi : i < n) (hj : j < n) (ho : 9 ≤ op ∧ op ≤ 14) (p : Bool) (hp : cmF op K v i j = p) (w : World) :
    Calls Tryz.prog 91 #[.int .i64 op, V (v i).k (v i).b (v i).s, V (v j).k (v j).b (v j).s] w fun e w' => e = .returned (.bool p) ∧ Below w.heap.size w w' := by
  have a := F.o i hi
  have b := F.o j hj
  have ki := a.k0
  have kj := a.k1
  rw [F.k i hi] at ki kj ⊢
  rw [F.k j hj]
  exact holds_is op K (v i).b (v j).b (v i).s (v j).s w p ho a.b0 a.b1 ⟨ki, kj⟩ a.s1 b.b0 b.b1 b.s1 (F.m i hi) (F.m j hj) hp
end Go.Proofs.YtpaibmganlaaeaaGreatDoor
namespace Go.Proofs.YtpaibmganlaaeaaGreatDoor
set_option linter.unusedVariables false
open Go.RowKit
section
variable (g l c : Nat) (hw : Int) (k b : Int) (s : ByteArray) (w : World)
set_option maxHeartbeats 2000000 in
theorem choose_no (n : Int) (ha : A1 w g ⟨k, b, s⟩) (hm : 1 ≤ l) (hc : l ≤ c) (W_ : ∀ w, Calls Tryz.prog 98 #[V k b s] w fun e w' => e = .returned (.int .i64 n) ∧ Below w.heap.size w w') (hn : n < 0 ∨ (l : Int) ≤ n) :
    Calls Tryz.prog 48 #[.int .i64 hw, .slice (some ⟨g, 0, none⟩) (l + 1) (c + 1)] w fun e w' => e = .returned (.tuple #[V 0 0 E0, .int .i64 3]) ∧ Below w.heap.size w w' := by
  have W_ : Hid _ := W_
  have zg : g < w.heap.size := block_lt_of_cell ha.c0
  have HA : Hid _ := ha
  have m1 : (1 : Int) ≤ l := by omega
  have m2 : (l : Int) ≤ c := by omega
  clear ha
  go_enter Tryz.func48, Tryz.ntmps48
  go_wp2_with fail
  have gr : Hid (Below w.heap.size w (w.alloc (.cells #[.int .u8 0, .int .u64 0, .string ⟨#[]⟩] 27))) := (Below.refl _ _).alloc (Nat.le_refl _) _
  have rb : Hid (VB (w.alloc (.cells #[.int .u8 0, .int .u64 0, .string ⟨#[]⟩] 27)) w.heap.size 0 0 E0) := ⟨by simp, by simp, by simp, by simp, by simp, by simp⟩
  have AA := HA.out.below gr.out
  have zW : w.heap.size < (w.alloc (.cells #[.int .u8 0, .int .u64 0, .string ⟨#[]⟩] 27)).heap.size := by simp
  generalize (w.alloc (.cells #[.int .u8 0, .int .u64 0, .string ⟨#[]⟩] 27)) = W at *
  have d0 : ∀ x : Sub W, x.w.cell? ⟨g, 0, none⟩ = some _ := fun x => (x.h.cell (p := ⟨g, 0, none⟩) (Nat.lt_trans zg zW)).trans AA.c0
  have d1 : ∀ x : Sub W, x.w.cell? ⟨g, 1, none⟩ = some _ := fun x => (x.h.cell (p := ⟨g, 1, none⟩) (Nat.lt_trans zg zW)).trans AA.c1
  have d2 : ∀ x : Sub W, x.w.cell? ⟨g, 2, none⟩ = some _ := fun x => (x.h.cell (p := ⟨g, 2, none⟩) (Nat.lt_trans zg zW)).trans AA.c2
  clear AA HA
  refine wp_region_sub2 (by kernel_rfl) (by kernel_rfl) ?_
  intro cx
  clear cx
  repeat (first | go_big_quiet_skip | (go_big_quiet_want; go_big_quiet_op; first | go_big_quiet_on | (refine ⟨_, fun _ => rfl, ?_⟩; go_big_quiet_on) | go_big_quiet_call (first | (go_at_call 98; exact calls_sub (W_.out _)))))
  refine wpQuiet_nil ?_
  rintro _ ⟨y, rfl⟩
  have BY : Hid (Below w.heap.size w y.w) := gr.out.trans (y.h.mono (Nat.le_of_lt zW))
  have RB : Hid (VB y.w w.heap.size 0 0 E0) := rb.out.below y.h
  generalize y.w = w5 at *
  clear d0 d1 d2
  obtain ⟨r0, r1, r2, r3, r4, r5⟩ := RB.out
  clear hm hc
  rcases hn with q | q
  all_goals
    go_wp2
    exact bodyPost_ret (v := .tuple #[V 0 0 E0, .int .i64 3]) (by simp [results, Tryz.results48, go_sem, r0, r1, r2]) rfl ⟨rfl, ((BY.out.setCell (by simp) _).setCell (by simp) _).setCell (by simp) _⟩
set_option maxHeartbeats 2000000 in
theorem choose_yes (n : Nat) (rk rb_ : Int) (rs : ByteArray) (ha : A1 w g ⟨k, b, s⟩) (hx : A1' w g (3 + n * 3) ⟨rk, rb_, rs⟩) (hc : l ≤ c) (W_ : ∀ w, Calls Tryz.prog 98 #[V k b s] w fun e w' => e = .returned (.int .i64 n) ∧ Below w.heap.size w w') (hn : n < l) :
    Calls Tryz.prog 48 #[.int .i64 hw, .slice (some ⟨g, 0, none⟩) (l + 1) (c + 1)] w fun e w' => e = .returned (.tuple #[V rk rb_ rs, .int .i64 0]) ∧ Below w.heap.size w w' := by
  have HX : Hid _ := hx
  clear hx
  have W_ : Hid _ := W_
  have zg : g < w.heap.size := block_lt_of_cell ha.c0
  have HA : Hid _ := ha
  have m0 : (n : Int) < l := by omega
  have m1 : (1 : Int) ≤ l := by omega
  have m2 : (l : Int) ≤ c := by omega
  clear ha
  go_enter Tryz.func48, Tryz.ntmps48
  go_wp2_with fail
  have gr : Hid (Below w.heap.size w (w.alloc (.cells #[.int .u8 0, .int .u64 0, .string ⟨#[]⟩] 27))) := (Below.refl _ _).alloc (Nat.le_refl _) _
  have rb : Hid (VB (w.alloc (.cells #[.int .u8 0, .int .u64 0, .string ⟨#[]⟩] 27)) w.heap.size 0 0 E0) := ⟨by simp, by simp, by simp, by simp, by simp, by simp⟩
  have AA := HA.out.below gr.out
  have zW : w.heap.size < (w.alloc (.cells #[.int .u8 0, .int .u64 0, .string ⟨#[]⟩] 27)).heap.size := by simp
  generalize (w.alloc (.cells #[.int .u8 0, .int .u64 0, .string ⟨#[]⟩] 27)) = W at *
  have d0 : ∀ x : Sub W, x.w.cell? ⟨g, 0, none⟩ = some _ := fun x => (x.h.cell (p := ⟨g, 0, none⟩) (Nat.lt_trans zg zW)).trans AA.c0
  have d1 : ∀ x : Sub W, x.w.cell? ⟨g, 1, none⟩ = some _ := fun x => (x.h.cell (p := ⟨g, 1, none⟩) (Nat.lt_trans zg zW)).trans AA.c1
  have d2 : ∀ x : Sub W, x.w.cell? ⟨g, 2, none⟩ = some _ := fun x => (x.h.cell (p := ⟨g, 2, none⟩) (Nat.lt_trans zg zW)).trans AA.c2
  clear AA HA
  refine wp_region_sub2 (by kernel_rfl) (by kernel_rfl) ?_
  intro cx
  clear cx
  repeat (first | go_big_quiet_skip | (go_big_quiet_want; go_big_quiet_op; first | go_big_quiet_on | (refine ⟨_, fun _ => rfl, ?_⟩; go_big_quiet_on) | go_big_quiet_call (first | (go_at_call 98; exact calls_sub (W_.out _)))))
  refine wpQuiet_nil ?_
  rintro _ ⟨y, rfl⟩
  have BY : Hid (Below w.heap.size w y.w) := gr.out.trans (y.h.mono (Nat.le_of_lt zW))
  have RB : Hid (VB y.w w.heap.size 0 0 E0) := rb.out.below y.h
  generalize y.w = w5 at *
  clear d0 d1 d2
  obtain ⟨r0, r1, r2, r3, r4, r5⟩ := RB.out
  obtain ⟨x0, x1, x2⟩ := HX.out.below BY.out
  have nn : (0 : Int) ≤ n := by omega
  clear hn hc
  go_wp2
  exact bodyPost_ret (v := .tuple #[V rk rb_ rs, .int .i64 0]) (by simp [results, Tryz.results48, go_sem, r0, r1, r2]) rfl ⟨rfl, ((BY.out.setCell (by simp) _).setCell (by simp) _).setCell (by simp) _⟩
end
end Go.Proofs.YtpaibmganlaaeaaGreatDoor
namespace Go.Proofs.YtpaibmganlaaeaaGreatDoor
set_option linter.unusedVariables false
open Go.RowKit
/-- Does a comparison hold of each and the next one? -/
def chF (op K : Int) (v : Nat → Vl) (l : Nat) : Bool := decide (∀ j, j < l → cmF op K v j (j + 1) = true)
section
variable (g l c : Nat) (op K : Int) (v : Nat → Vl) (w : World)
set_option maxHeartbeats 2000000 in
theorem compare_of (F : Fam (l + 1) v K) (hv : VsAt w ⟨g, 0, none⟩ (l + 1) v) (hc : l ≤ c) (h1 : 1 ≤ l) (hl : l < 1000000) (ho : 9 ≤ op ∧ op ≤ 14) :
    Calls Tryz.prog 40 #[.int .i64 op, .slice (some ⟨g, 0, none⟩) (l + 1) (c + 1)] w fun e w' => e = .returned (.tuple #[V 1 (tb (chF op K v l)) E0, .int .i64 0]) ∧ Below w.heap.size w w' := by
  have HF : Hid _ := F
  have HV : Hid (VsAt w ⟨g, 0, none⟩ (l + 1) v) := hv
  have m2 : (l : Int) ≤ c := by omega
  have m1 : (1 : Int) ≤ l := by omega
  have m3 : (l : Int) < 1000000 := by omega
  clear F hv
  go_enter Tryz.func40, Tryz.ntmps40
  go_wp2_with fail
  have gr : Hid (Below w.heap.size w (w.alloc (.cells #[.int .u8 0, .int .u64 0, .string ⟨#[]⟩] 27))) := (Below.refl _ _).alloc (Nat.le_refl _) _
  have rb : Hid (VB (w.alloc (.cells #[.int .u8 0, .int .u64 0, .string ⟨#[]⟩] 27)) w.heap.size 0 0 E0) := ⟨by simp, by simp, by simp, by simp, by simp, by simp⟩
  have zW : w.heap.size < (w.alloc (.cells #[.int .u8 0, .int .u64 0, .string ⟨#[]⟩] 27)).heap.size := by simp
  generalize (w.alloc (.cells #[.int .u8 0, .int .u64 0, .string ⟨#[]⟩] 27)) = W at *
  go_loopw [11] (fun i wr => ∃ k : Nat, k ≤ l ∧ i = .int .i64 k ∧ Below W.heap.size W wr ∧ ∀ j, j < k → cmF op K v j (j + 1) = true) (fun i _ => l - (intOf i).toNat)
  case atStart => exact ⟨0, Nat.zero_le _, rfl, Below.refl _ _, fun j hj => absurd hj (Nat.not_lt_zero _)⟩
  case round =>
    obtain ⟨k, hk, rfl, hb, hall⟩ := hrel
    have HB : Hid (Below W.heap.size W wr) := hb
    have HA : Hid _ := hall
    have Bw : Hid (Below w.heap.size w wr) := gr.out.trans (hb.mono gr.out.size)
    have RB : Hid (VB wr w.heap.size 0 0 E0) := rb.out.below hb
    clear hall hb
    by_cases hlt : k < l
    · have hlt' : (k : Int) < l := by omega
      obtain ⟨x0, x1, x2⟩ := HV.out.below Bw.out k (by omega)
      obtain ⟨y0, y1, y2⟩ := A1'.nx (HV.out.below Bw.out) (k := k) (by omega)
      rw [add_flat, Nat.zero_add] at x0 x1 x2
      have zr : g < wr.heap.size := block_lt_of_cell x0
      cases p : cmF op K v k (k + 1)
      all_goals
        have P : Hid (cmF op K v k (k + 1) = _) := p
        clear p
        go_wp2_with fail
        have gA : Hid (Below wr.heap.size wr (wr.alloc (.cells #[.int .u8 (v (k + 1)).k, .int .u64 (v (k + 1)).b, .string (v (k + 1)).s] 27))) := (Below.refl _ _).alloc (Nat.le_refl _) _
        have nb : VB (wr.alloc (.cells #[.int .u8 (v (k + 1)).k, .int .u64 (v (k + 1)).b, .string (v (k + 1)).s] 27)) wr.heap.size (v (k + 1)).k (v (k + 1)).b (v (k + 1)).s := ⟨by simp, by simp, by simp, by simp, by simp, by simp⟩
        have zN : wr.heap.size < (wr.alloc (.cells #[.int .u8 (v (k + 1)).k, .int .u64 (v (k + 1)).b, .string (v (k + 1)).s] 27)).heap.size := by simp
        generalize (wr.alloc (.cells #[.int .u8 (v (k + 1)).k, .int .u64 (v (k + 1)).b, .string (v (k + 1)).s] 27)) = W2 at *
        have d0 : ∀ x : Sub W2, x.w.cell? ⟨g, k * 3, none⟩ = some _ := fun x => (x.h.cell (p := ⟨g, k * 3, none⟩) (Nat.lt_trans zr zN)).trans ((gA.out.cell (p := ⟨g, k * 3, none⟩) zr).trans x0)
        have d1 : ∀ x : Sub W2, x.w.cell? ⟨g, k * 3 + 1, none⟩ = some _ := fun x => (x.h.cell (p := ⟨g, k * 3 + 1, none⟩) (Nat.lt_trans zr zN)).trans ((gA.out.cell (p := ⟨g, k * 3 + 1, none⟩) zr).trans x1)
        have d2 : ∀ x : Sub W2, x.w.cell? ⟨g, k * 3 + 2, none⟩ = some _ := fun x => (x.h.cell (p := ⟨g, k * 3 + 2, none⟩) (Nat.lt_trans zr zN)).trans ((gA.out.cell (p := ⟨g, k * 3 + 2, none⟩) zr).trans x2)
        have e0 : ∀ x : Sub W2, x.w.cell? ⟨wr.heap.size, 0, none⟩ = some _ := fun x => (x.h.cell (p := ⟨wr.heap.size, 0, none⟩) zN).trans nb.c0
        have e1 : ∀ x : Sub W2, x.w.cell? ⟨wr.heap.size, 1, none⟩ = some _ := fun x => (x.h.cell (p := ⟨wr.heap.size, 1, none⟩) zN).trans nb.c1
        have e2 : ∀ x : Sub W2, x.w.cell? ⟨wr.heap.size, 2, none⟩ = some _ := fun x => (x.h.cell (p := ⟨wr.heap.size, 2, none⟩) zN).trans nb.c2
        refine wp_region_sub2 (by kernel_rfl) (by kernel_rfl) ?_
        intro cx
        clear cx
        repeat (first | go_big_quiet_skip | (go_big_quiet_want; go_big_quiet_op; first | go_big_quiet_on | (refine ⟨_, fun _ => rfl, ?_⟩; go_big_quiet_on) | go_big_quiet_call (first | (go_at_call 91; exact calls_sub (HF.out.holds op k (k + 1) (by omega) (by omega) ho _ P.out _)))))
        refine wpQuiet_nil ?_
        rintro _ ⟨y, rfl⟩
        have B5 : Hid (Below wr.heap.size wr y.w) := gA.out.trans (y.h.mono gA.out.size)
        generalize y.w = w5 at *
        have BY : Hid (Below W.heap.size W w5) := HB.out.trans (B5.out.mono HB.out.size)
        have BZ : Hid (Below w.heap.size w w5) := Bw.out.trans (B5.out.mono Bw.out.size)
        have RY : Hid (VB w5 w.heap.size 0 0 E0) := RB.out.below B5.out
        clear d0 d1 d2 e0 e1 e2 x0 x1 x2 y0 y1 y2 nb
      · go_wp2_with (first | (go_at_call 92; refine (Bool_of false _).mono ?_; rintro e w6 ⟨rfl, hb6⟩; have B6 : Hid (Below w.heap.size w w6) := BZ.out.trans (hb6.mono BZ.out.size); obtain ⟨r0, r1, r2, r3, r4, r5⟩ := RY.out.below hb6; clear hb6))
        have e : chF op K v l = false := by
          unfold chF
          refine decide_eq_false fun q => ?_
          have := q k hlt
          rw [P.out] at this
          cases this
        rw [e]
        exact bodyPost_ret (v := .tuple #[V 1 (tb false) E0, .int .i64 0]) (by simp [results, Tryz.results40, go_sem, r0, r1, r2]) rfl ⟨rfl, ((B6.out.setCell (by simp) _).setCell (by simp) _).setCell (by simp) _⟩
      · go_wp2
        exact ⟨⟨k + 1, by omega, by go_num, BY.out, fun j hj => by rcases Nat.lt_succ_iff_lt_or_eq.1 hj with h | rfl; exact HA.out j h; exact P.out⟩, by simp [intOf]; omega⟩
    · have e : chF op K v l = true := decide_eq_true fun j hj => HA.out j (by omega)
      have hk' : ¬ (k : Int) < l := by omega
      go_wp2_with (first | (go_at_call 92; refine (Bool_of true _).mono ?_; rintro e w6 ⟨rfl, hb6⟩; have B6 : Hid (Below w.heap.size w w6) := Bw.out.trans (hb6.mono Bw.out.size); obtain ⟨r0, r1, r2, r3, r4, r5⟩ := RB.out.below hb6; clear hb6))
      rw [e]
      exact bodyPost_ret (v := .tuple #[V 1 (tb true) E0, .int .i64 0]) (by simp [results, Tryz.results40, go_sem, r0, r1, r2]) rfl ⟨rfl, ((B6.out.setCell (by simp) _).setCell (by simp) _).setCell (by simp) _⟩
end
end Go.Proofs.YtpaibmganlaaeaaGreatDoor
namespace Go.Proofs.YtpaibmganlaaeaaGreatDoor
set_option linter.unusedVariables false
open Go.RowKit
theorem VB.put {W : World} {h : Nat} {k b rk rb : Int} {s rs : ByteArray} (a : VB W h k b s) : VB (((W.setCell ⟨h, 0, none⟩ (.int .u8 rk)).setCell ⟨h, 1, none⟩ (.int .u64 rb)).setCell ⟨h, 2, none⟩ (.string rs)) h rk rb rs := by
  obtain ⟨a0, a1, a2, a3, a4, a5⟩ := a
  exact ⟨by simp [go_sem, *], by simp [go_sem, *], by simp [go_sem, *], by simp [*], by simp [*], by simp [*]⟩
theorem VB.apart {W : World} {h q : Nat} {k b rk rb : Int} {s rs : ByteArray} (a : VB W h k b s) (ne : ¬ h = q) : VB (((W.setCell ⟨q, 0, none⟩ (.int .u8 rk)).setCell ⟨q, 1, none⟩ (.int .u64 rb)).setCell ⟨q, 2, none⟩ (.string rs)) h k b s := by
  obtain ⟨a0, a1, a2, a3, a4, a5⟩ := a
  have ne' : ¬ q = h := fun e => ne e.symm
  exact ⟨by simp [go_sem, *], by simp [go_sem, *], by simp [go_sem, *], by simp [*], by simp [*], by simp [*]⟩
/-- Which of the values is the least (greatest) of the first ones. -/
def mxF (op K : Int) (v : Nat → Vl) : Nat → Nat
  | 0 => 0
  | k + 1 => if cmF op K v (k + 1) (mxF op K v k) = true then k + 1 else mxF op K v k
theorem mxF_le (op K : Int) (v : Nat → Vl) : ∀ k, mxF op K v k ≤ k
  | 0 => Nat.le_refl _
  | k + 1 => by
    have := mxF_le op K v k
    unfold mxF
    split <;> omega
section
variable (g l c : Nat) (op K : Int) (v : Nat → Vl) (w : World)
set_option maxHeartbeats 2000000 in
theorem outermost_of (F : Fam (l + 1) v K) (hv : VsAt w ⟨g, 0, none⟩ (l + 1) v) (hc : l ≤ c) (h1 : 1 ≤ l) (hl : l < 1000000) (ho : 9 ≤ op ∧ op ≤ 14) :
    Calls Tryz.prog 45 #[.int .i64 op, .slice (some ⟨g, 0, none⟩) (l + 1) (c + 1)] w fun e w' => e = .returned (.tuple #[V (v (mxF op K v l)).k (v (mxF op K v l)).b (v (mxF op K v l)).s, .int .i64 0]) ∧ Below w.heap.size w w' := by
  have HF : Hid _ := F
  have HV : Hid (VsAt w ⟨g, 0, none⟩ (l + 1) v) := hv
  have m2 : (l : Int) ≤ c := by omega
  have m1 : (1 : Int) ≤ l := by omega
  have m3 : (l : Int) < 1000000 := by omega
  obtain ⟨a0, a1, a2⟩ := A1.vs hv (by omega)
  have zg : g < w.heap.size := block_lt_of_cell a0
  clear F hv
  go_enter Tryz.func45, Tryz.ntmps45
  go_wp2_with fail
  have gr : Hid (Below w.heap.size w ((w.alloc (.cells #[.int .u8 0, .int .u64 0, .string ⟨#[]⟩] 27)).alloc (.cells #[.int .u8 (v 0).k, .int .u64 (v 0).b, .string (v 0).s] 27))) := ((Below.refl _ _).alloc (Nat.le_refl _) _).alloc (by simp) _
  have rb : Hid (VB ((w.alloc (.cells #[.int .u8 0, .int .u64 0, .string ⟨#[]⟩] 27)).alloc (.cells #[.int .u8 (v 0).k, .int .u64 (v 0).b, .string (v 0).s] 27)) w.heap.size 0 0 E0) := ⟨by simp, by simp, by simp, by simp, by simp, by simp⟩
  have vb : Hid (VB ((w.alloc (.cells #[.int .u8 0, .int .u64 0, .string ⟨#[]⟩] 27)).alloc (.cells #[.int .u8 (v 0).k, .int .u64 (v 0).b, .string (v 0).s] 27)) (w.heap.size + 1) (v 0).k (v 0).b (v 0).s) := ⟨by simp, by simp, by simp, by simp, by simp, by simp⟩
  generalize ((w.alloc (.cells #[.int .u8 0, .int .u64 0, .string ⟨#[]⟩] 27)).alloc (.cells #[.int .u8 (v 0).k, .int .u64 (v 0).b, .string (v 0).s] 27)) = W at *
  clear a0 a1 a2
  go_loopw [15] (fun i wr => ∃ k : Nat, k ≤ l ∧ i = .int .i64 k ∧ Below w.heap.size w wr ∧ VB wr w.heap.size 0 0 E0 ∧ VB wr (w.heap.size + 1) (v (mxF op K v k)).k (v (mxF op K v k)).b (v (mxF op K v k)).s) (fun i _ => l - (intOf i).toNat)
  case atStart => exact ⟨0, Nat.zero_le _, rfl, gr.out, rb.out, vb.out⟩
  case round =>
    obtain ⟨k, hk, rfl, hb, hr, hx⟩ := hrel
    have Bw : Hid (Below w.heap.size w wr) := hb
    have RB : Hid (VB wr w.heap.size 0 0 E0) := hr
    have VX : Hid (VB wr (w.heap.size + 1) (v (mxF op K v k)).k (v (mxF op K v k)).b (v (mxF op K v k)).s) := hx
    have ZV : Hid (w.heap.size + 1 < wr.heap.size) := block_lt_of_cell hx.c0
    clear hb hr hx rb vb gr
    by_cases hlt : k < l
    · have hlt' : (k : Int) < l := by omega
      obtain ⟨y0, y1, y2⟩ := A1'.nx (HV.out.below Bw.out) (k := k) (by omega)
      have me : Hid (mxF op K v (k + 1) = if cmF op K v (k + 1) (mxF op K v k) = true then k + 1 else mxF op K v k) := rfl
      have ml : Hid (mxF op K v k < l + 1) := by have := mxF_le op K v k; show mxF op K v k < l + 1; omega
      generalize mxF op K v k = j at *
      cases p : cmF op K v (k + 1) j
      all_goals
        have P : Hid (cmF op K v (k + 1) j = _) := p
        clear p
        clear m1 m3 zg
        obtain ⟨q0, q1, q2, q3, q4, q5⟩ := VX.out
        have zV := ZV.out
        go_wp2_with (first | (go_at_call 91; refine (HF.out.holds op (k + 1) j (by omega) ml.out ho _ P.out _).mono ?_; rintro e w5 ⟨rfl, hb5⟩; have gA : Hid (Below wr.heap.size wr w5) := ((Below.refl _ _).alloc (Nat.le_refl _) _).trans (hb5.mono (by simp)); have N5 : Hid (VB w5 wr.heap.size (v (k + 1)).k (v (k + 1)).b (v (k + 1)).s) := VB.below (w := (wr.alloc (.cells #[.int .u8 (v (k + 1)).k, .int .u64 (v (k + 1)).b, .string (v (k + 1)).s] 27))) ⟨by simp, by simp, by simp, by simp, by simp, by simp⟩ hb5; have BZ : Hid (Below w.heap.size w w5) := Bw.out.trans (gA.out.mono Bw.out.size); have RY : Hid (VB w5 w.heap.size 0 0 E0) := RB.out.below gA.out; have VY : Hid (VB w5 (w.heap.size + 1) (v j).k (v j).b (v j).s) := VX.out.below gA.out; clear hb5 q0 q1 q2 q3 q4 q5; obtain ⟨n0, n1, n2, n3, n4, n5⟩ := N5.out; obtain ⟨q0, q1, q2, q3, q4, q5⟩ := VY.out))
      · refine ⟨⟨k + 1, by omega, by go_num, BZ.out, RY.out, ?_⟩, by simp [intOf]; omega⟩
        rw [me.out, if_neg (by rw [P.out]; decide)]
        exact VY.out
      · refine ⟨⟨k + 1, by omega, by go_num, ((BZ.out.setCell (by simp) _).setCell (by simp) _).setCell (by simp) _, RY.out.apart (by omega), ?_⟩, by simp [intOf]; omega⟩
        rw [me.out, if_pos P.out]
        exact VY.out.put
    · obtain rfl : k = l := by omega
      obtain ⟨q0, q1, q2, q3, q4, q5⟩ := VX.out
      obtain ⟨r0, r1, r2, r3, r4, r5⟩ := RB.out
      go_wp2
      exact bodyPost_ret (v := .tuple #[V (v (mxF op K v k)).k (v (mxF op K v k)).b (v (mxF op K v k)).s, .int .i64 0]) (by simp [results, Tryz.results45, go_sem, r0, r1, r2]) rfl ⟨rfl, ((Bw.out.setCell (by simp) _).setCell (by simp) _).setCell (by simp) _⟩
end
end Go.Proofs.YtpaibmganlaaeaaGreatDoor
namespace Go.Proofs.YtpaibmganlaaeaaGreatDoor
set_option linter.unusedVariables false
open Go.RowKit
/-- Which of the three it is. -/
def lm1 (K : Int) (v : Nat → Vl) : Nat := if cmF 11 K v 1 0 = true then 0 else 1
def lmF (K : Int) (v : Nat → Vl) : Nat := if cmF 13 K v (lm1 K v) 2 = true then 2 else lm1 K v
theorem vb_last (W : World) (k b : Int) (s : ByteArray) : VB (W.alloc (.cells #[.int .u8 k, .int .u64 b, .string s] 27)) W.heap.size k b s := ⟨by simp, by simp, by simp, by simp, by simp, by simp⟩
theorem vb3 (W : World) (k1 b1 k2 b2 k3 b3 : Int) (s1 s2 s3 : ByteArray) : VB (((W.alloc (.cells #[.int .u8 k1, .int .u64 b1, .string s1] 27)).alloc (.cells #[.int .u8 k2, .int .u64 b2, .string s2] 27)).alloc (.cells #[.int .u8 k3, .int .u64 b3, .string s3] 27)).drew W.heap.size k1 b1 s1 ∧ VB (((W.alloc (.cells #[.int .u8 k1, .int .u64 b1, .string s1] 27)).alloc (.cells #[.int .u8 k2, .int .u64 b2, .string s2] 27)).alloc (.cells #[.int .u8 k3, .int .u64 b3, .string s3] 27)).drew (W.heap.size + 1) k2 b2 s2 ∧ VB (((W.alloc (.cells #[.int .u8 k1, .int .u64 b1, .string s1] 27)).alloc (.cells #[.int .u8 k2, .int .u64 b2, .string s2] 27)).alloc (.cells #[.int .u8 k3, .int .u64 b3, .string s3] 27)).drew (W.heap.size + 1 + 1) k3 b3 s3 ∧ Below W.heap.size W (((W.alloc (.cells #[.int .u8 k1, .int .u64 b1, .string s1] 27)).alloc (.cells #[.int .u8 k2, .int .u64 b2, .string s2] 27)).alloc (.cells #[.int .u8 k3, .int .u64 b3, .string s3] 27)).drew := by
  have e1 : (W.alloc (.cells #[.int .u8 k1, .int .u64 b1, .string s1] 27)).heap.size = W.heap.size + 1 := by simp
  have e2 : ((W.alloc (.cells #[.int .u8 k1, .int .u64 b1, .string s1] 27)).alloc (.cells #[.int .u8 k2, .int .u64 b2, .string s2] 27)).heap.size = W.heap.size + 1 + 1 := by simp
  have x1 := vb_last W k1 b1 s1
  have x2 := vb_last (W.alloc (.cells #[.int .u8 k1, .int .u64 b1, .string s1] 27)) k2 b2 s2
  have x3 := vb_last ((W.alloc (.cells #[.int .u8 k1, .int .u64 b1, .string s1] 27)).alloc (.cells #[.int .u8 k2, .int .u64 b2, .string s2] 27)) k3 b3 s3
  rw [e1] at x2
  rw [e2] at x3
  refine ⟨x1.below ?_, x2.below ?_, x3.below ?_, ?_⟩
  all_goals go_grown
theorem keep9 {W w' : World} {g : Nat} {x0 x1 x2 x3 x4 x5 x6 x7 x8 : Value} (h : W.cell? ⟨g, 0, none⟩ = some x0 ∧ W.cell? ⟨g, 1, none⟩ = some x1 ∧ W.cell? ⟨g, 2, none⟩ = some x2 ∧ W.cell? ⟨g, 3, none⟩ = some x3 ∧ W.cell? ⟨g, 4, none⟩ = some x4 ∧ W.cell? ⟨g, 5, none⟩ = some x5 ∧ W.cell? ⟨g, 6, none⟩ = some x6 ∧ W.cell? ⟨g, 7, none⟩ = some x7 ∧ W.cell? ⟨g, 8, none⟩ = some x8) (z : g < W.heap.size) (hb : Below W.heap.size W w') : w'.cell? ⟨g, 0, none⟩ = some x0 ∧ w'.cell? ⟨g, 1, none⟩ = some x1 ∧ w'.cell? ⟨g, 2, none⟩ = some x2 ∧ w'.cell? ⟨g, 3, none⟩ = some x3 ∧ w'.cell? ⟨g, 4, none⟩ = some x4 ∧ w'.cell? ⟨g, 5, none⟩ = some x5 ∧ w'.cell? ⟨g, 6, none⟩ = some x6 ∧ w'.cell? ⟨g, 7, none⟩ = some x7 ∧ w'.cell? ⟨g, 8, none⟩ = some x8 := by
  obtain ⟨h0, h1, h2, h3, h4, h5, h6, h7, h8⟩ := h
  exact ⟨(hb.cell (p := ⟨g, 0, none⟩) z).trans h0, (hb.cell (p := ⟨g, 1, none⟩) z).trans h1, (hb.cell (p := ⟨g, 2, none⟩) z).trans h2, (hb.cell (p := ⟨g, 3, none⟩) z).trans h3, (hb.cell (p := ⟨g, 4, none⟩) z).trans h4, (hb.cell (p := ⟨g, 5, none⟩) z).trans h5, (hb.cell (p := ⟨g, 6, none⟩) z).trans h6, (hb.cell (p := ⟨g, 7, none⟩) z).trans h7, (hb.cell (p := ⟨g, 8, none⟩) z).trans h8⟩
section
variable (g c : Nat) (hw K : Int) (v : Nat → Vl) (w : World)
set_option maxHeartbeats 2000000 in
theorem limit_of (F : Fam 3 v K) (ha : A3 w g (v 0) (v 1) (v 2)) :
    Calls Tryz.prog 46 #[.int .i64 hw, .slice (some ⟨g, 0, none⟩) 3 c] w fun e w' => e = .returned (.tuple #[V (v (lmF K v)).k (v (lmF K v)).b (v (lmF K v)).s, .int .i64 0]) ∧ Below w.heap.size w w' := by
  have HF : Hid _ := F
  have zg : g < w.heap.size := block_lt_of_cell ha.c0
  obtain ⟨a0, a1, a2, a3, a4, a5, a6, a7, a8⟩ := ha
  clear F
  go_enter Tryz.func46, Tryz.ntmps46
  go_wp2_with fail
  have gr : Hid (Below w.heap.size w (w.alloc (.cells #[.int .u8 0, .int .u64 0, .string ⟨#[]⟩] 27))) := (Below.refl _ _).alloc (Nat.le_refl _) _
  have rb : Hid (VB (w.alloc (.cells #[.int .u8 0, .int .u64 0, .string ⟨#[]⟩] 27)) w.heap.size 0 0 E0) := ⟨by simp, by simp, by simp, by simp, by simp, by simp⟩
  have a0 := (gr.out.cell (p := ⟨g, 0, none⟩) zg).trans a0
  have a1 := (gr.out.cell (p := ⟨g, 1, none⟩) zg).trans a1
  have a2 := (gr.out.cell (p := ⟨g, 2, none⟩) zg).trans a2
  have a3 := (gr.out.cell (p := ⟨g, 3, none⟩) zg).trans a3
  have a4 := (gr.out.cell (p := ⟨g, 4, none⟩) zg).trans a4
  have a5 := (gr.out.cell (p := ⟨g, 5, none⟩) zg).trans a5
  have a6 := (gr.out.cell (p := ⟨g, 6, none⟩) zg).trans a6
  have a7 := (gr.out.cell (p := ⟨g, 7, none⟩) zg).trans a7
  have a8 := (gr.out.cell (p := ⟨g, 8, none⟩) zg).trans a8
  generalize (w.alloc (.cells #[.int .u8 0, .int .u64 0, .string ⟨#[]⟩] 27)) = W at *
  have HS : Hid (W.cell? ⟨g, 0, none⟩ = some (.int .u8 (v 0).k) ∧ W.cell? ⟨g, 1, none⟩ = some (.int .u64 (v 0).b) ∧ W.cell? ⟨g, 2, none⟩ = some (.string (v 0).s) ∧ W.cell? ⟨g, 3, none⟩ = some (.int .u8 (v 1).k) ∧ W.cell? ⟨g, 4, none⟩ = some (.int .u64 (v 1).b) ∧ W.cell? ⟨g, 5, none⟩ = some (.string (v 1).s) ∧ W.cell? ⟨g, 6, none⟩ = some (.int .u8 (v 2).k) ∧ W.cell? ⟨g, 7, none⟩ = some (.int .u64 (v 2).b) ∧ W.cell? ⟨g, 8, none⟩ = some (.string (v 2).s)) := ⟨a0, a1, a2, a3, a4, a5, a6, a7, a8⟩
  have e1 := World.new_ne W ⟨g, 0, none⟩ a0
  have zG : g < W.heap.size := block_lt_of_cell a0
  have e2 : ¬ W.heap.size + 1 + 1 = g := by omega
  have e3 : ¬ g = W.heap.size + 1 + 1 := by omega
  have e4 : ¬ W.heap.size + 2 = g := by omega
  have e5 : ¬ g = W.heap.size + 2 := by omega
  have e6 : ¬ W.heap.size + 1 = g := by omega
  have e7 : ¬ g = W.heap.size + 1 := by omega
  go_cut [6, 7, 8] (fun s6 s7 s8 wx => ∃ h6 h7 h8, s6 = .pointer (some ⟨h6, 0, none⟩) ∧ s7 = .pointer (some ⟨h7, 0, none⟩) ∧ s8 = .pointer (some ⟨h8, 0, none⟩) ∧ VB wx h6 (v 0).k (v 0).b (v 0).s ∧ VB wx h7 (v 1).k (v 1).b (v 1).s ∧ VB wx h8 (v 2).k (v 2).b (v 2).s ∧ W.heap.size ≤ h6 ∧ W.heap.size ≤ h7 ∧ W.heap.size ≤ h8 ∧ h6 ≠ h7 ∧ h7 ≠ h8 ∧ Below W.heap.size W wx)
  case first =>
    go_region_held3 (fun w' => w'.cell? ⟨g, 0, none⟩ = some (.int .u8 (v 0).k) ∧ w'.cell? ⟨g, 1, none⟩ = some (.int .u64 (v 0).b) ∧ w'.cell? ⟨g, 2, none⟩ = some (.string (v 0).s) ∧ w'.cell? ⟨g, 3, none⟩ = some (.int .u8 (v 1).k) ∧ w'.cell? ⟨g, 4, none⟩ = some (.int .u64 (v 1).b) ∧ w'.cell? ⟨g, 5, none⟩ = some (.string (v 1).s) ∧ w'.cell? ⟨g, 6, none⟩ = some (.int .u8 (v 2).k) ∧ w'.cell? ⟨g, 7, none⟩ = some (.int .u64 (v 2).b) ∧ w'.cell? ⟨g, 8, none⟩ = some (.string (v 2).s)) ((refine keep9 HS.out zG ?_; go_grown)) (fail)
    all_goals
      go_wp2_with fail
      go_meet
      case rel => (refine ⟨_, _, _, rfl, rfl, rfl, ?_, ?_, ?_, by omega, by omega, by omega, by omega, by omega, (vb3 W _ _ _ _ _ _ _ _ _).2.2.2⟩ <;> first | exact (vb3 W _ _ _ _ _ _ _ _ _).1 | exact (vb3 W _ _ _ _ _ _ _ _ _).2.1 | exact (vb3 W _ _ _ _ _ _ _ _ _).2.2.1)
  case rest =>
    obtain ⟨h6, h7, h8, rfl, rfl, rfl, v6, v7, v8, l6, l7, l8, n67, n78, hb⟩ := hcut
    have zW : w.heap.size < W.heap.size := block_lt_of_cell rb.out.c0
    have Bw : Hid (Below w.heap.size w wc) := gr.out.trans (hb.mono gr.out.size)
    have RB : Hid (VB wc w.heap.size 0 0 E0) := rb.out.below hb
    have V6 : Hid (VB wc h6 (v 0).k (v 0).b (v 0).s) := v6
    have V7 : Hid (VB wc h7 (v 1).k (v 1).b (v 1).s) := v7
    have V8 : Hid (VB wc h8 (v 2).k (v 2).b (v 2).s) := v8
    have m7 : w.heap.size ≤ h7 := by omega
    have m8 : ¬ w.heap.size = h7 := by omega
    have n87 : ¬ h8 = h7 := fun e => n78 e.symm
    have n76 : ¬ h7 = h6 := fun e => n67 e.symm
    clear a0 a1 a2 a3 a4 a5 a6 a7 a8 HS e1 e2 e3 e4 e5 e6 e7 zG hb rb gr v6 v7 v8 zW l6 l7 l8
    have F1 : Hid (lm1 K v = if cmF 11 K v 1 0 = true then 0 else 1) := rfl
    have F2 : Hid (lmF K v = if cmF 13 K v (lm1 K v) 2 = true then 2 else lm1 K v) := rfl
    cases p : cmF 11 K v 1 0
    all_goals
      have P : Hid (cmF 11 K v 1 0 = _) := p
      clear p
      obtain ⟨b0, b1, b2, b3, b4, b5⟩ := V6.out
      obtain ⟨c0, c1, c2, c3, c4, c5⟩ := V7.out
      go_wp2_with fail
      refine (HF.out.holds 11 1 0 (by decide) (by decide) (by decide) _ P.out _).mono ?_
      rintro e w4 ⟨rfl, hb4⟩
      have B4 : Hid (Below w.heap.size w w4) := Bw.out.trans (hb4.mono Bw.out.size)
      have R4 : Hid (VB w4 w.heap.size 0 0 E0) := RB.out.below hb4
      have X6 : Hid (VB w4 h6 (v 0).k (v 0).b (v 0).s) := V6.out.below hb4
      have X7 : Hid (VB w4 h7 (v 1).k (v 1).b (v 1).s) := V7.out.below hb4
      have X8 : Hid (VB w4 h8 (v 2).k (v 2).b (v 2).s) := V8.out.below hb4
      clear b0 b1 b2 b3 b4 b5 c0 c1 c2 c3 c4 c5 hb4 V6 V7 V8 RB Bw
      obtain ⟨b0, b1, b2, b3, b4, b5⟩ := X6.out
      obtain ⟨c0, c1, c2, c3, c4, c5⟩ := X7.out
      obtain ⟨d0, d1, d2, d3, d4, d5⟩ := X8.out
    · have L : Hid (lm1 K v = 1) := by show lm1 K v = 1; rw [F1.out, P.out]; rfl
      cases q : cmF 13 K v 1 2
      all_goals
        have Q : Hid (cmF 13 K v 1 2 = _) := q
        clear q
        go_wp2_with fail
        refine (HF.out.holds 13 1 2 (by decide) (by decide) (by decide) _ Q.out _).mono ?_
        rintro e w5 ⟨rfl, hb5⟩
        have B5 : Hid (Below w.heap.size w w5) := B4.out.trans (hb5.mono B4.out.size)
        have R5 : Hid (VB w5 w.heap.size 0 0 E0) := R4.out.below hb5
        have Y7 : Hid (VB w5 h7 (v 1).k (v 1).b (v 1).s) := X7.out.below hb5
        have Y8 : Hid (VB w5 h8 (v 2).k (v 2).b (v 2).s) := X8.out.below hb5
        clear b0 b1 b2 b3 b4 b5 c0 c1 c2 c3 c4 c5 d0 d1 d2 d3 d4 d5 hb5 X6 X7 X8 R4 B4
        obtain ⟨c0, c1, c2, c3, c4, c5⟩ := Y7.out
        obtain ⟨d0, d1, d2, d3, d4, d5⟩ := Y8.out
        obtain ⟨r0, r1, r2, r3, r4, r5⟩ := R5.out
        go_wp2
      · have e : lmF K v = 1 := by rw [F2.out, L.out, Q.out]; rfl
        rw [e]
        exact bodyPost_ret (v := .tuple #[V (v 1).k (v 1).b (v 1).s, .int .i64 0]) (by simp [results, Tryz.results46, go_sem, r0, r1, r2]) rfl ⟨rfl, ((B5.out.setCell (by simp) _).setCell (by simp) _).setCell (by simp) _⟩
      · have e : lmF K v = 2 := by rw [F2.out, L.out, Q.out]; rfl
        rw [e]
        exact bodyPost_ret (v := .tuple #[V (v 2).k (v 2).b (v 2).s, .int .i64 0]) (by simp [results, Tryz.results46, go_sem, r0, r1, r2]) rfl ⟨rfl, by have b5 := B5.out; go_grown⟩
    · have L : Hid (lm1 K v = 0) := by show lm1 K v = 0; rw [F1.out, P.out]; rfl
      cases q : cmF 13 K v 0 2
      all_goals
        have Q : Hid (cmF 13 K v 0 2 = _) := q
        clear q
        go_wp2_with fail
        refine (HF.out.holds 13 0 2 (by decide) (by decide) (by decide) _ Q.out _).mono ?_
        rintro e w5 ⟨rfl, hb5⟩
        have B5 : Hid (Below w.heap.size w w5) := ((((B4.out.setCell m7 _).setCell m7 _).setCell m7 _)).trans (hb5.mono (by have := B4.out.size; simpa using this))
        have R5 : Hid (VB w5 w.heap.size 0 0 E0) := (R4.out.apart m8).below hb5
        have Y7 : Hid (VB w5 h7 (v 0).k (v 0).b (v 0).s) := (X7.out.put).below hb5
        have Y8 : Hid (VB w5 h8 (v 2).k (v 2).b (v 2).s) := (X8.out.apart n87).below hb5
        clear b0 b1 b2 b3 b4 b5 c0 c1 c2 c3 c4 c5 d0 d1 d2 d3 d4 d5 hb5 X6 X7 X8 R4 B4
        obtain ⟨c0, c1, c2, c3, c4, c5⟩ := Y7.out
        obtain ⟨d0, d1, d2, d3, d4, d5⟩ := Y8.out
        obtain ⟨r0, r1, r2, r3, r4, r5⟩ := R5.out
        go_wp2
      · have e : lmF K v = 0 := by rw [F2.out, L.out, Q.out]; rfl
        rw [e]
        exact bodyPost_ret (v := .tuple #[V (v 0).k (v 0).b (v 0).s, .int .i64 0]) (by simp [results, Tryz.results46, go_sem, r0, r1, r2]) rfl ⟨rfl, ((B5.out.setCell (by simp) _).setCell (by simp) _).setCell (by simp) _⟩
      · have e : lmF K v = 2 := by rw [F2.out, L.out, Q.out]; rfl
        rw [e]
        exact bodyPost_ret (v := .tuple #[V (v 2).k (v 2).b (v 2).s, .int .i64 0]) (by simp [results, Tryz.results46, go_sem, r0, r1, r2]) rfl ⟨rfl, by have b5 := B5.out; go_grown⟩
end
end Go.Proofs.YtpaibmganlaaeaaGreatDoor
