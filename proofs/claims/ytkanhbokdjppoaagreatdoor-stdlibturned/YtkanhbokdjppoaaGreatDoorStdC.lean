/- What ROL and ROR give; no statement of the seat is proved here. -/
import Derived.Test.YtkanhbokdjppoaaGreatDoorStdB
namespace Go.Proofs.YtkanhbokdjppoaaGreatDoor
set_option linter.unusedVariables false
open Go.RowKit
section
variable (g cap : Nat) (k b l c hw : Int) (s t : ByteArray) (w : World)
/-- A turned row. -/
def tlB (k b c : Int) : Int := rotN (wdK k) (c.toNat % wdK k) b.toNat
def trB (k b c : Int) : Int := rotN (wdK k) (wdK k - c.toNat % wdK k) b.toNat
theorem wd_pos (k : Int) : 0 < wdK k ∧ wdK k ≤ 64 := by unfold wdK; by_cases a : k = 10 <;> by_cases b : k = 11 <;> by_cases c : k = 12 <;> simp [a, b, c]
theorem may_row (h : k = 10 ∨ k = 11 ∨ k = 12 ∨ k = 13) (h1 : b < 18446744073709551616) (m : may3 k b s = true) : b < ((2 ^ wdK k : Nat) : Int) := by
  rcases h with rfl | rfl | rfl | rfl <;> simp [may3, mayW, wdK] at m ⊢ <;> omega
theorem turn_cut (r : Int) (n m : Nat) (hm : m ≤ n) (hn : n ≤ 64) (h0 : 0 ≤ r) (h1 : r < ((2 ^ n : Nat) : Int)) : bits .and .u64 (rndI r n m) ((2 ^ n - 1 : Nat) : Int) = rotN n m r.toNat := rot_int n m r hm hn h0 h1

theorem enter_left (args : Array Value) (w : World) : (callFunc 117 args).run Tryz.prog w = .ok (.enter 117 args) w := by kernel_rfl
theorem enter_right (args : Array Value) (w : World) : (callFunc 119 args).run Tryz.prog w = .ok (.enter 119 args) w := by kernel_rfl
set_option maxHeartbeats 1000000 in
theorem turnLeft_g (rk rb fa : Int) (rs : ByteArray) (M : ∀ W, Below w.heap.size w W → Calls Tryz.prog 114 #[.slice (some ⟨g, 0, none⟩) 2 cap, .func (.func 117) #[] #[]] W fun e w' => e = .returned (.tuple #[V rk rb rs, .int .i64 fa]) ∧ Below W.heap.size W w') :
    Calls Tryz.prog 72 #[.int .i64 hw, .slice (some ⟨g, 0, none⟩) 2 cap] w fun e w' => e = .returned (.tuple #[V rk rb rs, .int .i64 fa]) ∧ Below w.heap.size w w' := by
  have HM : Hid _ := M
  clear M
  go_enter Tryz.func72, Tryz.ntmps72
  go_wp2_with (first | (go_at_call 114; refine (HM.out _ ((Below.refl _ _).alloc (Nat.le_refl _) _)).mono ?_; rintro e w1 ⟨rfl, hb⟩; obtain ⟨q, fq⟩ := bcell hb; have s1 := hb.size; (try simp at s1); have q0 := q w.heap.size 0 (by simp); have q1 := q w.heap.size 1 (by simp); have q2 := q w.heap.size 2 (by simp); have f0 := fq w.heap.size 0 (by simp); have f1 := fq w.heap.size 1 (by simp); have f2 := fq w.heap.size 2 (by simp); simp at q0 q1 q2 f0 f1 f2; have HB : Hid (Below w.heap.size w w1) := ((Below.refl _ _).alloc (Nat.le_refl _) _).trans (hb.mono (by simp)); clear hb q fq))
  exact bodyPost_ret (v := .tuple #[V rk rb rs, .int .i64 fa]) (by simp [results, Tryz.results72, go_sem, q0, q1, q2]) rfl ⟨rfl, ((HB.out.setCell (by simp) _).setCell (by simp) _).setCell (by simp) _⟩
set_option maxHeartbeats 1000000 in
theorem turnRight_g (rk rb fa : Int) (rs : ByteArray) (M : ∀ W, Below w.heap.size w W → Calls Tryz.prog 114 #[.slice (some ⟨g, 0, none⟩) 2 cap, .func (.func 119) #[] #[]] W fun e w' => e = .returned (.tuple #[V rk rb rs, .int .i64 fa]) ∧ Below W.heap.size W w') :
    Calls Tryz.prog 73 #[.int .i64 hw, .slice (some ⟨g, 0, none⟩) 2 cap] w fun e w' => e = .returned (.tuple #[V rk rb rs, .int .i64 fa]) ∧ Below w.heap.size w w' := by
  have HM : Hid _ := M
  clear M
  go_enter Tryz.func73, Tryz.ntmps73
  go_wp2_with (first | (go_at_call 114; refine (HM.out _ ((Below.refl _ _).alloc (Nat.le_refl _) _)).mono ?_; rintro e w1 ⟨rfl, hb⟩; obtain ⟨q, fq⟩ := bcell hb; have s1 := hb.size; (try simp at s1); have q0 := q w.heap.size 0 (by simp); have q1 := q w.heap.size 1 (by simp); have q2 := q w.heap.size 2 (by simp); have f0 := fq w.heap.size 0 (by simp); have f1 := fq w.heap.size 1 (by simp); have f2 := fq w.heap.size 2 (by simp); simp at q0 q1 q2 f0 f1 f2; have HB : Hid (Below w.heap.size w w1) := ((Below.refl _ _).alloc (Nat.le_refl _) _).trans (hb.mono (by simp)); clear hb q fq))
  exact bodyPost_ret (v := .tuple #[V rk rb rs, .int .i64 fa]) (by simp [results, Tryz.results73, go_sem, q0, q1, q2]) rfl ⟨rfl, ((HB.out.setCell (by simp) _).setCell (by simp) _).setCell (by simp) _⟩
theorem turnLeft_neg (ha : A2 w g ⟨k, b, s⟩ ⟨l, c, t⟩) (h0 : 0 ≤ c) (h1 : c < 18446744073709551616) (hk : 2 ≤ l ∧ l ≤ 9) (hs : t.size ≤ maxLen) (m : may3 l c t = true) (hn : num l c < 0) :
    Calls Tryz.prog 72 #[.int .i64 hw, .slice (some ⟨g, 0, none⟩) 2 cap] w fun e w' => e = .returned (.tuple #[V 0 0 E0, .int .i64 3]) ∧ Below w.heap.size w w' :=
  turnLeft_g g cap hw w 0 0 3 E0 (fun W hb => moveBits_neg g cap _ k b l c s t W (ha.below hb) h0 h1 hk hs m hn)
theorem turnLeft_yes (hkk : k = 10 ∨ k = 11 ∨ k = 12 ∨ k = 13) (ha : A2 w g ⟨k, b, s⟩ ⟨l, c, t⟩) (b0 : 0 ≤ b) (b1 : b < 18446744073709551616) (mb : may3 k b s = true) (h0 : 0 ≤ c) (h1 : c < 18446744073709551616) (hk : 2 ≤ l ∧ l ≤ 9) (hs : t.size ≤ maxLen) (m : may3 l c t = true) (hn : ¬ num l c < 0) :
    Calls Tryz.prog 72 #[.int .i64 hw, .slice (some ⟨g, 0, none⟩) 2 cap] w fun e w' => e = .returned (.tuple #[V k (tlB k b c) s, .int .i64 0]) ∧ Below w.heap.size w w' := by
  have wp := wd_pos k
  have lm := Nat.mod_lt c.toNat wp.1
  have e := turn_cut b (wdK k) (c.toNat % wdK k) (by omega) wp.2 b0 (may_row k b s hkk b1 mb)
  have M := fun W => turnLeft1_of b (wdK k) c.toNat W wp.1 wp.2
  rw [show ((c.toNat : Nat) : Int) = c by omega] at M
  unfold tlB
  rw [← e]
  exact turnLeft_g g cap hw w k _ 0 s (fun W hb => moveBits_yes g cap _ k b l c s t W _ hkk (ha.below hb) h0 h1 hk hs m hn M enter_left)
theorem turnRight_neg (ha : A2 w g ⟨k, b, s⟩ ⟨l, c, t⟩) (h0 : 0 ≤ c) (h1 : c < 18446744073709551616) (hk : 2 ≤ l ∧ l ≤ 9) (hs : t.size ≤ maxLen) (m : may3 l c t = true) (hn : num l c < 0) :
    Calls Tryz.prog 73 #[.int .i64 hw, .slice (some ⟨g, 0, none⟩) 2 cap] w fun e w' => e = .returned (.tuple #[V 0 0 E0, .int .i64 3]) ∧ Below w.heap.size w w' :=
  turnRight_g g cap hw w 0 0 3 E0 (fun W hb => moveBits_neg g cap _ k b l c s t W (ha.below hb) h0 h1 hk hs m hn)
theorem turnRight_yes (hkk : k = 10 ∨ k = 11 ∨ k = 12 ∨ k = 13) (ha : A2 w g ⟨k, b, s⟩ ⟨l, c, t⟩) (b0 : 0 ≤ b) (b1 : b < 18446744073709551616) (mb : may3 k b s = true) (h0 : 0 ≤ c) (h1 : c < 18446744073709551616) (hk : 2 ≤ l ∧ l ≤ 9) (hs : t.size ≤ maxLen) (m : may3 l c t = true) (hn : ¬ num l c < 0) :
    Calls Tryz.prog 73 #[.int .i64 hw, .slice (some ⟨g, 0, none⟩) 2 cap] w fun e w' => e = .returned (.tuple #[V k (trB k b c) s, .int .i64 0]) ∧ Below w.heap.size w w' := by
  have wp := wd_pos k
  have lm := Nat.mod_lt c.toNat wp.1
  have e := turn_cut b (wdK k) (wdK k - c.toNat % wdK k) (by omega) wp.2 b0 (may_row k b s hkk b1 mb)
  have M := fun W => turnRight1_of b (wdK k) c.toNat W wp.1 wp.2
  rw [show ((c.toNat : Nat) : Int) = c by omega] at M
  unfold trB
  rw [← e]
  exact turnRight_g g cap hw w k _ 0 s (fun W hb => moveBits_yes g cap _ k b l c s t W _ hkk (ha.below hb) h0 h1 hk hs m hn M enter_right)
theorem turn_back (hkk : k = 10 ∨ k = 11 ∨ k = 12 ∨ k = 13) (b0 : 0 ≤ b) (b1 : b < 18446744073709551616) (mb : may3 k b s = true) : trB k (tlB k b c) c = b := by
  have wp := wd_pos k
  have lm := Nat.mod_lt c.toNat wp.1
  have mr := may_row k b s hkk b1 mb
  unfold trB tlB
  rw [Int.toNat_natCast, rotN_back _ _ _ (by omega) (by omega)]
  omega
theorem tl_may (hkk : k = 10 ∨ k = 11 ∨ k = 12 ∨ k = 13) (b0 : 0 ≤ b) (b1 : b < 18446744073709551616) (mb : may3 k b s = true) : 0 ≤ tlB k b c ∧ tlB k b c < 18446744073709551616 ∧ may3 k (tlB k b c) s = true := by
  have wp := wd_pos k
  have lm := Nat.mod_lt c.toNat wp.1
  have mr := may_row k b s hkk b1 mb
  have lt := rotN_lt (wdK k) (c.toNat % wdK k) b.toNat (by omega) (by omega)
  have e : tlB k b c = ((rotN (wdK k) (c.toNat % wdK k) b.toNat : Nat) : Int) := rfl
  rw [e]
  generalize rotN (wdK k) (c.toNat % wdK k) b.toNat = n at *
  have p : 2 ^ wdK k ≤ 2 ^ 64 := Nat.pow_le_pow_right (by omega) wp.2
  refine ⟨by omega, by omega, ?_⟩
  rcases hkk with rfl | rfl | rfl | rfl <;> simp [may3, mayW, wdK] at mb lt ⊢ <;> first | exact ⟨mb.1, by omega⟩ | exact mb
end
end Go.Proofs.YtkanhbokdjppoaaGreatDoor
