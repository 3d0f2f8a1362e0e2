/- image: a reader's lists, told with their room; no statement of the seat is proved here. -/
import Derived.Test.YtdcjngakmkgbmaaGreatCrCK
import Derived.Test.YtdcjngakmkgbmaaGreatCrDK
import Derived.Test.YtdcjngakmkgbmaaGreatCrEK
import Derived.Test.YtdcjngakmkgbmaaGreatKoA9
import Derived.Test.YtdcjngakmkgbmaaGreatLexHK
import Derived.Test.YtdcjngakmkgbmaaGreatNumRK
import Derived.Deep.DeepCutAuto
import Derived.Deep.RegionHeld3
import Derived.Test.YtdcjngakmkgbmaaGreatKoA2
namespace Go.Proofs.YtdcjngakmkgbmaaGreat
set_option linter.unusedVariables false
open Go.RowKit
theorem ofR_of (cd : Int) (f : FlR) (x1 x2 : Option Addr) (p1 p2 : Nat) (cs : Int) (w : World) (hc : 1 ≤ cd ∧ cd ≤ 23) (hr : 0 ≤ f.rg ∧ f.rg ≤ 8) (hs : 0 ≤ f.sl ∧ f.sl ≤ 1024) (hn : f.os.length ≤ 1048576) (hq : 0 ≤ cs ∧ cs ≤ 1048576) : RlOk cd f x1 x2 p1 p2 cs w := by
  rcases (show (cd = 1 ∨ cd = 2 ∨ cd = 3 ∨ cd = 4 ∨ cd = 5 ∨ cd = 6 ∨ cd = 7 ∨ cd = 8) ∨ (cd = 9 ∨ cd = 10 ∨ cd = 11 ∨ cd = 12 ∨ cd = 13 ∨ cd = 14 ∨ cd = 15) ∨ (cd = 16 ∨ cd = 18 ∨ cd = 19 ∨ cd = 20 ∨ cd = 21) ∨ (cd = 17 ∨ cd = 22 ∨ cd = 23) by omega) with q | q | q | q
  · exact ofR_1 cd f x1 x2 p1 p2 cs w q hr hs hn hq
  · exact ofR_2 cd f x1 x2 p1 p2 cs w q hr hs hn hq
  · exact ofR_3 cd f x1 x2 p1 p2 cs w q hr hs hn hq
  · exact ofR_4 cd f x1 x2 p1 p2 cs w q hr hs hn hq
/-- Are the bounds of such a sort? -/
def bnB (lo hi k : Int) : Bool := if k = 1 then decide (lo ≤ hi) && decide (hi - lo < 256) else if k = 2 then decide (lo ≤ hi) else if k = 3 then decide (lo = 0) && inB 0 254 hi else decide (lo = 0) && decide (hi = 0)
theorem rc_bn (o : OpR) : rcB o = bnB o.lo o.hi (bdK o.cd) := by
  unfold rcB bnB bdK
  by_cases a : o.cd = 5 ∨ o.cd = 6 ∨ o.cd = 8
  · simp only [if_pos a, if_true]
  simp only [if_neg a]
  by_cases b : o.cd = 14
  · simp [b]
  simp only [if_neg b]
  by_cases c : o.cd = 15
  · simp [c]
  simp [c]
theorem bdK_in (cd : Int) : bdK cd = 0 ∨ bdK cd = 1 ∨ bdK cd = 2 ∨ bdK cd = 3 := by
  unfold bdK
  split
  · simp
  split
  · simp
  split <;> simp
set_option maxHeartbeats 4000000 in
theorem boundedR_of (o : OpR) (k : Int) (hk : k = 0 ∨ k = 1 ∨ k = 2 ∨ k = 3) (ho : OpOk o) (w : World) : Calls Tryz.prog 85 #[OpV o, .int .i64 k] w fun e w' => e = .returned (.bool (bnB o.lo o.hi k)) ∧ Below w.heap.size w w' := by
  have g1 := wf_i64 ho.2.2.2.2.2.1
  have g2 := wf_i64 ho.2.2.2.2.2.2.1
  clear ho
  obtain ⟨cd, oa, ob, oc, od, lo, hi, vk, vb, vs⟩ := o
  simp only at g1 g2
  have N1 : Hid (lo ≤ hi → ∀ W, Calls Tryz.prog 115 #[.int .i64 lo, .int .i64 hi] W fun e w' => e = .returned (.bool (decide (hi - lo < 256))) ∧ w' = W) := fun h W => nearR_of lo hi h g1 g2 W
  have N2 : Hid (∀ W, Calls Tryz.prog 83 #[.int .i64 hi, .int .i64 254] W fun e w' => e = .returned (.bool (inB 0 254 hi)) ∧ w' = W) := fun W => inR_of hi 254 W
  clear g1 g2
  unfold bnB
  rcases hk with rfl | rfl | rfl | rfl
  · simp only [show ¬ (0 : Int) = 1 by omega, show ¬ (0 : Int) = 2 by omega, show ¬ (0 : Int) = 3 by omega, if_false]
    by_cases a : lo = 0
    · have a1 : (lo == 0) = true := by simp [a]
      rw [decide_eq_true a]
      clear a
      by_cases b : hi = 0
      · have b1 : (hi == 0) = true := by simp [b]
        rw [decide_eq_true b]
        clear b
        go_enter Tryz.func85, Tryz.ntmps85
        go_wp2
        go_ret
        exact ⟨rfl, by go_grown⟩
      · have b1 : (hi == 0) = false := by simp [b]
        rw [decide_eq_false b]
        clear b
        go_enter Tryz.func85, Tryz.ntmps85
        go_wp2
        go_ret
        exact ⟨rfl, by go_grown⟩
    · have a1 : (lo == 0) = false := by simp [a]
      rw [decide_eq_false a]
      clear a
      go_enter Tryz.func85, Tryz.ntmps85
      go_wp2
      go_ret
      exact ⟨rfl, by go_grown⟩
  · simp only [if_true]
    by_cases a : lo ≤ hi
    · have N3 : Hid _ := N1.out a
      rw [decide_eq_true a]
      generalize decide (hi - lo < 256) = r at *
      go_enter Tryz.func85, Tryz.ntmps85
      go_wp2_with fail
      refine (N3.out _).mono ?_
      rintro e wN ⟨rfl, hN⟩
      rw [hN]
      go_wp2
      go_ret
      exact ⟨rfl, by go_grown⟩
    · rw [decide_eq_false a]
      go_enter Tryz.func85, Tryz.ntmps85
      go_wp2
      go_ret
      exact ⟨rfl, by go_grown⟩
  · simp only [show ¬ (2 : Int) = 1 by omega, if_false, if_true]
    by_cases a : lo ≤ hi
    · rw [decide_eq_true a]
      go_enter Tryz.func85, Tryz.ntmps85
      go_wp2
      go_ret
      exact ⟨by simp, by go_grown⟩
    · rw [decide_eq_false a]
      go_enter Tryz.func85, Tryz.ntmps85
      go_wp2
      go_ret
      exact ⟨by simp, by go_grown⟩
  · simp only [show ¬ (3 : Int) = 1 by omega, show ¬ (3 : Int) = 2 by omega, if_false, if_true]
    by_cases a : lo = 0
    · have a1 : (lo == 0) = true := by simp [a]
      rw [decide_eq_true a]
      clear a
      generalize inB 0 254 hi = r at *
      go_enter Tryz.func85, Tryz.ntmps85
      go_wp2_with fail
      refine (N2.out _).mono ?_
      rintro e wN ⟨rfl, hN⟩
      rw [hN]
      go_wp2
      go_ret
      exact ⟨rfl, by go_grown⟩
    · have a1 : (lo == 0) = false := by simp [a]
      rw [decide_eq_false a]
      clear a
      go_enter Tryz.func85, Tryz.ntmps85
      go_wp2
      go_ret
      exact ⟨rfl, by go_grown⟩
end Go.Proofs.YtdcjngakmkgbmaaGreat
namespace Go.Proofs.YtdcjngakmkgbmaaGreat
set_option linter.unusedVariables false
open Go.RowKit
theorem bitN_5 (c : Int) (h : bitN c ≠ 0) : c = 88 ∨ c = 66 ∨ c = 87 ∨ c = 68 ∨ c = 76 := by
  rcases bit6 c with q | q | q | q | q | q
  · exact Or.inl q
  · exact Or.inr (Or.inl q)
  · exact Or.inr (Or.inr (Or.inl q))
  · exact Or.inr (Or.inr (Or.inr (Or.inl q)))
  · exact Or.inr (Or.inr (Or.inr (Or.inr q)))
  · exact absurd (bitN_none c q) h
theorem tailR_adR (s : ByteArray) (hC : capS s = s) (c0 : byt s 0 = 37) (c1 : areaB (byt s 1) = true) (c2 : bitN (byt s 2) ≠ 0) : tailR s (byt s 2) (digN s) = adR s := by
  have e1 := capU_of_capS s hC 1
  have e2 := capU_of_capS s hC 2
  have T := adE_tail s c0 (by rw [e1]; exact c1) (by rw [e2]; exact c2)
  unfold adR
  simp only [nI_t]
  rw [T]
  unfold tailE tailR
  rw [e2]
  have b5 := bitN_5 _ c2
  have k : (byt s 2 = 88 ∧ bitN (byt s 2) = 1) ∨ (byt s 2 ≠ 88 ∧ 1 < bitN (byt s 2)) := by
    rcases b5 with q | q | q | q | q <;> rw [q] <;> decide
  generalize bitN (byt s 2) = b at *
  generalize digN s = d at *
  simp only [show 4 + d = 3 + d + 1 by omega] at *
  rcases k with ⟨k1, k2⟩ | ⟨k1, k2⟩
  · rw [k1, k2]
    by_cases h1 : 1 ≤ d ∧ d ≤ 4 ∧ ¬ (1 < d ∧ byt s 3 = 48)
    · simp only [if_pos h1, if_true, if_neg (show ¬ (1 : Int) < 1 by omega)]
      by_cases h2 : byt s (3 + d) = 46 ∧ 48 ≤ byt s (3 + d + 1) ∧ byt s (3 + d + 1) ≤ 55
      · simp only [if_pos h2]
        rw [show ((5 : Int) + (d : Int)).toNat = 3 + d + 2 by omega]
        repeat' split
        all_goals omega
      · simp only [if_neg h2]
        rfl
    · simp only [if_neg h1]
      rfl
  · by_cases h1 : 1 ≤ d ∧ d ≤ 4 ∧ ¬ (1 < d ∧ byt s 3 = 48)
    · simp only [if_pos h1, if_pos k2, if_neg k1]
      rw [show ((3 : Int) + (d : Int)).toNat = 3 + d by omega]
      repeat' split
      all_goals omega
    · simp only [if_neg h1]
      rfl
theorem addressR_of (s : ByteArray) (w : World) (hs : s.size ≤ maxLen) (hC : capS s = s) (c0 : byt s 0 = 37) : Calls Tryz.prog 114 #[.string s, .int .i64 0] w fun e w' => e = .returned (.int .i64 (adR s)) ∧ Below w.heap.size w w' := by
  rcases Nat.lt_or_ge 3 s.size with hz | hz
  · have P : capS (s.extract 0 3) = s.extract 0 3 := cap_ext s _ (ext3_mem s) hC
    have ps := ext3_size s (by omega)
    have p1 := ext3_at s (by omega) 1 (by omega)
    have p2 := ext3_at s (by omega) 2 (by omega)
    rw [byt_in _ _ (by omega)] at p1 p2
    have pm : (s.extract 0 3).size ≤ maxLen := by unfold maxLen; omega
    cases c1 : areaB (byt s 1)
    · rw [adR_no s (by rw [capU_of_capS s hC]; exact Or.inl c1)]
      exact addressR_no s _ w hz rfl P ps pm (Or.inl (by rw [p1]; exact c1))
    · by_cases c2 : bitN (byt s 2) = 0
      · rw [adR_no s (by rw [capU_of_capS s hC, capU_of_capS s hC]; exact Or.inr c2)]
        exact addressR_no s _ w hz rfl P ps pm (Or.inr (by rw [p2]; exact c2))
      · refine addressR_yes s _ w hs hz rfl P ps pm (by rw [p1]; exact (area3 _).1 c1) (by rw [p2]; exact bitN_5 _ c2) _ ?_
        show _ = _
        rw [p2]
        exact tailR_adR s hC c0 c1 c2
  · exact addressR_small s w hs hC hz
theorem bits_sw (s : ByteArray) (h : bitN (byt s 2) ≠ 0) : (byt s 2 = 88 ∧ bitN (byt s 2) = 1) ∨ (byt s 2 = 66 ∧ bitN (byt s 2) = 8) ∨ (byt s 2 = 87 ∧ bitN (byt s 2) = 16) ∨ (byt s 2 = 68 ∧ bitN (byt s 2) = 32) ∨ (byt s 2 = 76 ∧ bitN (byt s 2) = 64) := by
  rcases bitN_5 _ h with q | q | q | q | q <;> rw [q] <;> decide
theorem dir_sw (s : ByteArray) : (byt s 1 = 73 ∧ dirN (byt s 1) = 1) ∨ (byt s 1 = 81 ∧ dirN (byt s 1) = 2) ∨ ((byt s 1 ≠ 73 ∧ byt s 1 ≠ 81) ∧ dirN (byt s 1) = 0) := by
  rcases dir3 (byt s 1) with q | q | q
  · exact Or.inl ⟨q, by rw [q]; rfl⟩
  · exact Or.inr (Or.inl ⟨q, by rw [q]; rfl⟩)
  · exact Or.inr (Or.inr ⟨q, dirN_no _ q⟩)
theorem text_some (s : ByteArray) (hz : 0 < s.size) : (s.toList == []) = false := by
  rw [beq_eq_false_iff_ne, ByteArray.toList_eq]
  intro q
  have : s.data.toList.length = 0 := by rw [q]; rfl
  rw [Array.length_toList] at this
  have e : s.data.size = s.size := rfl
  omega
set_option maxHeartbeats 2000000 in
theorem IsAddrR_yes (s : ByteArray) (w : World) (hs : s.size ≤ maxLen) (hE : adE s = s.size) (hC : capS s = s) : Calls Tryz.prog 81 #[.string s] w fun e w' => e = .returned (addrV s) ∧ Below w.heap.size w w' := by
  obtain ⟨e0, e1, e2, hz⟩ := adE_ok s hE
  rw [addrV_yes s hE hC]
  have A : Hid (adR s = s.size) := (adR_iff s).2 hE
  have U : Hid (∀ w, Calls Tryz.prog 114 #[.string s, .int .i64 0] w fun e w' => e = .returned (.int .i64 (adR s)) ∧ Below w.heap.size w w') := fun w => addressR_of s w hs hC e0
  rw [capU_of_capS s hC] at e2
  have C : Hid (capS s = s) := hC
  have b0 := byt_in s 0 (Nat.lt_of_lt_of_le (by decide) hz)
  have b1 := byt_in s 1 (Nat.lt_of_lt_of_le (by decide) hz)
  have b2 := byt_in s 2 (Nat.lt_of_lt_of_le (by decide) hz)
  have x2 := bits_sw s e2
  have x1 := dir_sw s
  rw [b1] at x1
  rw [b2] at x2
  rw [b0] at e0
  rw [b1, b2]
  have hm : s.size ≤ 9223372036854775807 := hs
  have g := text_some s (Nat.lt_of_lt_of_le (by decide) hz)
  clear e1 e2 hE hC b0 b1 b2
  rcases x1 with ⟨q, q'⟩ | ⟨q, q'⟩ | ⟨⟨q, q''⟩, q'⟩ <;> rcases x2 with ⟨z, z'⟩ | ⟨z, z'⟩ | ⟨z, z'⟩ | ⟨z, z'⟩ | ⟨z, z'⟩
  all_goals
    rw [q', z']
    clear q' z'
    go_enter Tryz.func81, Tryz.ntmps81
    go_wp2_with (first
      | (go_at_call 113; refine (Upper_of s _ hs).mono ?_; rintro e w1 ⟨rfl, hB⟩; rw [C.out])
      | (go_at_call 114; refine (U.out _).mono ?_; rintro e w2 ⟨rfl, hB2⟩; rw [A.out]))
    go_returns
    exact ⟨rfl, Below.trans hB (hB2.mono hB.size)⟩
set_option maxHeartbeats 2000000 in
theorem IsAddrR_of (s : ByteArray) (w : World) (hs : s.size ≤ maxLen) : Calls Tryz.prog 81 #[.string s] w fun e w' => e = .returned (addrV s) ∧ Below w.heap.size w w' := by
  by_cases hC : capS s = s
  · by_cases hE : adE s = s.size
    · exact IsAddrR_yes s w hs hE hC
    · rw [addrV_no s (Or.inl hE)]
      have f : (adR s == (s.size : Int)) = false := by
        have : ¬ adR s = s.size := fun q => hE ((adR_iff s).1 q)
        simpa using this
      have C : Hid (capS s = s) := hC
      clear hE
      rcases Nat.lt_or_ge 0 s.size with hz | hz
      · have b0 := byt_in s 0 hz
        have g := text_some s hz
        by_cases e0 : byt s 0 = 37
        · have U : Hid (∀ w, Calls Tryz.prog 114 #[.string s, .int .i64 0] w fun e w' => e = .returned (.int .i64 (adR s)) ∧ Below w.heap.size w w') := fun w => addressR_of s w hs hC e0
          rw [b0] at e0
          clear b0 hC
          go_enter Tryz.func81, Tryz.ntmps81
          go_wp2_with (first
            | (go_at_call 113; refine (Upper_of s _ hs).mono ?_; rintro e w1 ⟨rfl, hB⟩; rw [C.out])
            | (go_at_call 114; refine (U.out _).mono ?_; rintro e w2 ⟨rfl, hB2⟩))
          go_returns
          exact ⟨rfl, Below.trans hB (hB2.mono hB.size)⟩
        · rw [b0] at e0
          clear b0 hC
          go_enter Tryz.func81, Tryz.ntmps81
          go_wp2
          go_returns
          exact ⟨rfl, Below.refl _ _⟩
      · have e : s = ⟨#[]⟩ := by
          cases s with
          | mk d =>
            have : d.size = 0 := Nat.le_zero.1 hz
            rw [Array.size_eq_zero_iff.1 this]
        subst e
        clear hC f C
        go_enter Tryz.func81, Tryz.ntmps81
        go_wp2
        go_returns
        exact ⟨rfl, Below.refl _ _⟩
  · rw [addrV_no s (Or.inr hC)]
    have f := text_ne hC
    rcases Nat.lt_or_ge 0 s.size with hz | hz
    · have g := text_some s hz
      clear hC
      go_enter Tryz.func81, Tryz.ntmps81
      go_wp2_with (go_at_call 113; refine (Upper_of s _ hs).mono ?_; rintro e w1 ⟨rfl, hB⟩)
      all_goals
        go_returns
        first
        | exact ⟨rfl, hB⟩
        | exact ⟨rfl, Below.refl _ _⟩
    · exfalso
      refine hC ?_
      cases s with
      | mk d =>
        have : d.size = 0 := Nat.le_zero.1 hz
        rw [Array.size_eq_zero_iff.1 this]
        rfl
end Go.Proofs.YtdcjngakmkgbmaaGreat
namespace Go.Proofs.YtdcjngakmkgbmaaGreat
set_option linter.unusedVariables false
open Go.RowKit
theorem IntegerR_of (k : Int) (w : World) (p : Bool) (h : p = decide (2 ≤ k ∧ k ≤ 9)) : Calls Tryz.prog 111 #[.int .u8 k] w fun e w' => e = .returned (.bool p) ∧ w' = w := by
  subst h
  by_cases c : 2 ≤ k
  · by_cases d : k ≤ 5
    · go_enter Tryz.func111, Tryz.ntmps111
      go_wp2
      go_ret
      exact ⟨ret_bool (by symm; simp; omega), rfl⟩
    · by_cases d2 : k ≤ 9
      · go_enter Tryz.func111, Tryz.ntmps111
        go_wp2
        go_ret
        exact ⟨ret_bool (by symm; simp [*]), rfl⟩
      · go_enter Tryz.func111, Tryz.ntmps111
        go_wp2
        go_ret
        exact ⟨ret_bool (by symm; simp; omega), rfl⟩
  · go_enter Tryz.func111, Tryz.ntmps111
    go_wp2
    go_ret
    exact ⟨ret_bool (by symm; simp; omega), rfl⟩
theorem may_19 {b : Int} {s : ByteArray} (c : may3 19 b s = true) : s.size ≤ 254 := by simp [may3] at c; exact c.2
theorem fit_end {k b mx r : Int} {s : ByteArray} {sub : Bool} {lo hi : Int} (c : may3 k b s = true) (R : fitsF k b s k sub lo hi mx = if k = 19 ∧ 1 ≤ mx ∧ mx < s.size then 5 else 0)
    (h : (r = 0 ∧ (¬ k = 19 ∨ (s.size : Int) ≤ (if mx < 1 then 254 else mx))) ∨ (r = 5 ∧ k = 19 ∧ (if mx < 1 then 254 else mx) < (s.size : Int))) : r = fitsF k b s k sub lo hi mx := by
  rw [R]
  by_cases e : k = 19
  · subst e
    have := may_19 c
    by_cases m : mx < 1
    · rw [if_pos m] at h; rw [if_neg (by omega)]; omega
    · rw [if_neg m] at h
      by_cases n : mx < s.size
      · rw [if_pos (by omega)]; omega
      · rw [if_neg (by omega)]; omega
  · rw [if_neg (by omega)]; omega
theorem num_wrap {k b : Int} {s : ByteArray} (h0 : 0 ≤ b) (h1 : b < 18446744073709551616) (i : 2 ≤ k ∧ k ≤ 9) (c : may3 k b s = true) (n : numOk k b s = true) : num k b = wrap64 b := by
  unfold num
  by_cases j : 2 ≤ k ∧ k ≤ 5 ∨ k = 14
  · rw [if_pos j]
  · rw [if_neg j]
    have hb : b < 9223372036854775808 := by
      by_cases e : k = 9
      · simp [numOk, e] at n; omega
      · have l : b < 4294967296 := by
          have m : mayW k b = true := by
            have e19 : ¬ k = 19 := by omega
            simp [may3, e19] at c; exact c.2
          have : k = 6 ∨ k = 7 ∨ k = 8 := by omega
          rcases this with rfl | rfl | rfl
          · rw [mw6] at m; simp at m; omega
          · rw [mw7] at m; simp at m; omega
          · rw [mw8] at m; simp at m; omega
        omega
    unfold wrap64; omega
theorem num_big {k b : Int} {s : ByteArray} (i : 2 ≤ k ∧ k ≤ 9) (c : may3 k b s = true) (n : numOk k b s = false) : 9223372036854775808 ≤ num k b := by
  have : k = 9 ∧ 9223372036854775808 ≤ b := by
    simp [numOk, c] at n; omega
  rw [num_u (by omega)]; exact this.2
theorem fit_e3 {k b mx : Int} {s : ByteArray} {lo hi : Int} (h0 : 0 ≤ b) (h1 : b < 18446744073709551616) (i : 2 ≤ k ∧ k ≤ 9) (c : may3 k b s = true) (n : numOk k b s = true) (h : wrap64 b < lo ∨ hi < wrap64 b) : 3 = fitsF k b s k true lo hi mx :=
  (fitsF_c2 k b s lo hi mx c i (by rw [num_wrap h0 h1 i c n]; omega)).symm
theorem fit_e0 {k b mx : Int} {s : ByteArray} {lo hi : Int} (h0 : 0 ≤ b) (h1 : b < 18446744073709551616) (i : 2 ≤ k ∧ k ≤ 9) (c : may3 k b s = true) (n : numOk k b s = true) (h : lo ≤ wrap64 b ∧ wrap64 b ≤ hi) : 0 = fitsF k b s k true lo hi mx := by
  rw [fitsF_c1 k b s true lo hi mx c (by rw [num_wrap h0 h1 i c n]; omega), if_neg (by omega)]
section
variable (tk : Int) (sub : Bool) (lo hi mx : Int) (arr : Bool) (fr tz : Int) (bl : ByteArray) (k b : Int) (s : ByteArray) (w : World)
set_option maxHeartbeats 400000 in
theorem FitsR_a (h0 : 0 ≤ b) (h1 : b < 18446744073709551616) (hk : 0 ≤ k ∧ k < 256) (hs : s.size ≤ maxLen) (c : may3 k b s = false) :
    Calls Tryz.prog 79 #[T tk sub lo hi mx arr fr tz bl, V k b s] w fun e w' => e = .returned (.int .i64 (fitsF k b s tk sub lo hi mx)) ∧ Below w.heap.size w w' := by
  have R : Hid (8 = fitsF k b s tk sub lo hi mx) := by unfold fitsF; rw [if_pos (.inl c)]; rfl
  go_enter Tryz.func79, Tryz.ntmps79
  go_wp2_with (first | (go_at_call 86; refine (MayR_of _ _ _ _ h0 h1 hk hs).mono ?_; rintro e w1 ⟨rfl, hb⟩; obtain ⟨hc, hf⟩ := bcell hb))
  go_ret
  exact ⟨ret_int R.out, (((Below.refl _ _).alloc (Nat.le_refl _) _).alloc (by simp) _).trans (hb.mono (by simp; omega))⟩
set_option maxHeartbeats 400000 in
theorem FitsR_b (h0 : 0 ≤ b) (h1 : b < 18446744073709551616) (hk : 0 ≤ k ∧ k < 256) (hs : s.size ≤ maxLen) (c : may3 k b s = true) (d : (k != tk) = true) :
    Calls Tryz.prog 79 #[T tk sub lo hi mx arr fr tz bl, V k b s] w fun e w' => e = .returned (.int .i64 (fitsF k b s tk sub lo hi mx)) ∧ Below w.heap.size w w' := by
  have R : Hid (8 = fitsF k b s tk sub lo hi mx) := by unfold fitsF; rw [if_pos (.inr (by simpa using d))]; rfl
  go_enter Tryz.func79, Tryz.ntmps79
  go_wp2_with (first | (go_at_call 86; refine (MayR_of _ _ _ _ h0 h1 hk hs).mono ?_; rintro e w1 ⟨rfl, hb⟩; obtain ⟨hc, hf⟩ := bcell hb))
  go_ret
  exact ⟨ret_int R.out, (((Below.refl _ _).alloc (Nat.le_refl _) _).alloc (by simp) _).trans (hb.mono (by simp; omega))⟩
theorem below_box2 {w w1 : World} {x y : Obj} (hb : Below ((w.alloc x).alloc y).heap.size ((w.alloc x).alloc y) w1) : Below w.heap.size w w1 :=
  (((Below.refl _ _).alloc (Nat.le_refl _) _).alloc (by simp) _).trans (hb.mono (by simp; omega))
theorem below_lt2 {w w1 : World} {x y : Obj} (hb : Below ((w.alloc x).alloc y).heap.size ((w.alloc x).alloc y) w1) : w.heap.size < w1.heap.size ∧ w.heap.size + 1 < w1.heap.size := by have := hb.size; simp at this; omega
set_option maxHeartbeats 1000000 in
theorem FitsR_c (h0 : 0 ≤ b) (h1 : b < 18446744073709551616) (hk : 0 ≤ k ∧ k < 256) (hs : s.size ≤ maxLen) (c : may3 k b s = true) :
    Calls Tryz.prog 79 #[T k false lo hi mx arr fr tz bl, V k b s] w fun e w' => e = .returned (.int .i64 (fitsF k b s k false lo hi mx)) ∧ Below w.heap.size w w' := by
  have R : Hid (fitsF k b s k false lo hi mx = if k = 19 ∧ 1 ≤ mx ∧ mx < s.size then 5 else 0) := fitsF_c1 k b s false lo hi mx c (by simp)
  go_enter Tryz.func79, Tryz.ntmps79
  go_wp2_with (first | (go_at_call 86; refine (MayR_of _ _ _ _ h0 h1 hk hs).mono ?_; rintro e w1 ⟨rfl, hb⟩; obtain ⟨hc, hf⟩ := bcell hb))
  all_goals
    go_ret
    refine ⟨ret_int ?_, below_box2 hb⟩
    refine fit_end c R.out ?_
    split <;> omega
set_option maxHeartbeats 1000000 in
theorem FitsR_d (h0 : 0 ≤ b) (h1 : b < 18446744073709551616) (hk : 0 ≤ k ∧ k < 256) (hs : s.size ≤ maxLen) (c : may3 k b s = true) (g1 : -9223372036854775808 ≤ lo ∧ lo < 9223372036854775808) (g2 : -9223372036854775808 ≤ hi ∧ hi < 9223372036854775808) (i : ¬ (2 ≤ k ∧ k ≤ 9)) :
    Calls Tryz.prog 79 #[T k true lo hi mx arr fr tz bl, V k b s] w fun e w' => e = .returned (.int .i64 (fitsF k b s k true lo hi mx)) ∧ Below w.heap.size w w' := by
  have R : Hid (fitsF k b s k true lo hi mx = if k = 19 ∧ 1 ≤ mx ∧ mx < s.size then 5 else 0) := fitsF_c1 k b s true lo hi mx c (by simp only [true_and]; exact fun h => i h.1)
  have I : Hid (¬ (2 ≤ k ∧ k ≤ 9)) := i
  clear i
  go_enter Tryz.func79, Tryz.ntmps79
  go_wp2_with (first | (go_at_call 86; refine (MayR_of _ _ _ _ h0 h1 hk hs).mono ?_; rintro e w1 ⟨rfl, hb⟩; obtain ⟨hc, hf⟩ := bcell hb; obtain ⟨z0, z1⟩ := below_lt2 hb) | (go_at_call 111; refine (IntegerR_of _ _ false (by symm; simpa using I.out)).mono ?_; rintro e w2 ⟨rfl, rfl⟩) | (go_at_call 112; refine (NumberR_of _ _ _ _ h0 h1 hk hs).mono ?_; rintro e w2 ⟨rfl, hb2⟩; obtain ⟨hc2, hf2⟩ := bcell hb2))
  all_goals
    go_ret
    refine ⟨ret_int ?_, below_box2 hb⟩
    refine fit_end c R.out ?_
    split <;> omega
set_option maxHeartbeats 1000000 in
theorem FitsR_e (h0 : 0 ≤ b) (h1 : b < 18446744073709551616) (hk : 0 ≤ k ∧ k < 256) (hs : s.size ≤ maxLen) (c : may3 k b s = true) (g1 : -9223372036854775808 ≤ lo ∧ lo < 9223372036854775808) (g2 : -9223372036854775808 ≤ hi ∧ hi < 9223372036854775808) (i : 2 ≤ k ∧ k ≤ 9) (n : numOk k b s = true) :
    Calls Tryz.prog 79 #[T k true lo hi mx arr fr tz bl, V k b s] w fun e w' => e = .returned (.int .i64 (fitsF k b s k true lo hi mx)) ∧ Below w.heap.size w w' := by
  have I : Hid (2 ≤ k ∧ k ≤ 9) := i
  clear i
  go_enter Tryz.func79, Tryz.ntmps79
  go_wp2_with (first | (go_at_call 86; refine (MayR_of _ _ _ _ h0 h1 hk hs).mono ?_; rintro e w1 ⟨rfl, hb⟩; obtain ⟨hc, hf⟩ := bcell hb; obtain ⟨z0, z1⟩ := below_lt2 hb) | (go_at_call 111; refine (IntegerR_of _ _ true (by symm; simpa using I.out)).mono ?_; rintro e w2 ⟨rfl, rfl⟩) | (go_at_call 112; refine (NumberR_of _ _ _ _ h0 h1 hk hs).mono ?_; rintro e w2 ⟨rfl, hb2⟩; obtain ⟨hc2, hf2⟩ := bcell hb2))
  all_goals
    go_ret
    refine ⟨ret_int ?_, (below_box2 hb).trans (hb2.mono (by omega))⟩
    first | (exfalso; have := I.out; omega) | exact fit_e0 h0 h1 I.out c n ‹_› | exact fit_e3 h0 h1 I.out c n (by omega)
set_option maxHeartbeats 1000000 in
theorem FitsR_f (h0 : 0 ≤ b) (h1 : b < 18446744073709551616) (hk : 0 ≤ k ∧ k < 256) (hs : s.size ≤ maxLen) (c : may3 k b s = true) (g1 : -9223372036854775808 ≤ lo ∧ lo < 9223372036854775808) (g2 : -9223372036854775808 ≤ hi ∧ hi < 9223372036854775808) (i : 2 ≤ k ∧ k ≤ 9) (n : numOk k b s = false) :
    Calls Tryz.prog 79 #[T k true lo hi mx arr fr tz bl, V k b s] w fun e w' => e = .returned (.int .i64 (fitsF k b s k true lo hi mx)) ∧ Below w.heap.size w w' := by
  have I : Hid (2 ≤ k ∧ k ≤ 9) := i
  clear i
  go_enter Tryz.func79, Tryz.ntmps79
  go_wp2_with (first | (go_at_call 86; refine (MayR_of _ _ _ _ h0 h1 hk hs).mono ?_; rintro e w1 ⟨rfl, hb⟩; obtain ⟨hc, hf⟩ := bcell hb; obtain ⟨z0, z1⟩ := below_lt2 hb) | (go_at_call 111; refine (IntegerR_of _ _ true (by symm; simpa using I.out)).mono ?_; rintro e w2 ⟨rfl, rfl⟩) | (go_at_call 112; refine (NumberR_of _ _ _ _ h0 h1 hk hs).mono ?_; rintro e w2 ⟨rfl, hb2⟩; obtain ⟨hc2, hf2⟩ := bcell hb2))
  all_goals
    go_ret
    refine ⟨ret_int ?_, (below_box2 hb).trans (hb2.mono (by omega))⟩
    exact (fitsF_c2 k b s lo hi mx c I.out (by have := num_big I.out c n; omega)).symm
theorem FitsR_of (h0 : 0 ≤ b) (h1 : b < 18446744073709551616) (hk : 0 ≤ k ∧ k < 256) (hs : s.size ≤ maxLen) (g1 : -9223372036854775808 ≤ lo ∧ lo < 9223372036854775808) (g2 : -9223372036854775808 ≤ hi ∧ hi < 9223372036854775808) :
    Calls Tryz.prog 79 #[T tk sub lo hi mx arr fr tz bl, V k b s] w fun e w' => e = .returned (.int .i64 (fitsF k b s tk sub lo hi mx)) ∧ Below w.heap.size w w' := by
  cases c : may3 k b s
  · exact FitsR_a tk sub lo hi mx arr fr tz bl k b s w h0 h1 hk hs c
  by_cases d : k = tk
  · subst d
    cases sub
    · exact FitsR_c lo hi mx arr fr tz bl k b s w h0 h1 hk hs c
    by_cases i : 2 ≤ k ∧ k ≤ 9
    · cases n : numOk k b s
      · exact FitsR_f lo hi mx arr fr tz bl k b s w h0 h1 hk hs c g1 g2 i n
      · exact FitsR_e lo hi mx arr fr tz bl k b s w h0 h1 hk hs c g1 g2 i n
    · exact FitsR_d lo hi mx arr fr tz bl k b s w h0 h1 hk hs c g1 g2 i
  · exact FitsR_b tk sub lo hi mx arr fr tz bl k b s w h0 h1 hk hs c (by simpa using d)
end
end Go.Proofs.YtdcjngakmkgbmaaGreat
namespace Go.Proofs.YtdcjngakmkgbmaaGreat
set_option linter.unusedVariables false
open Go.RowKit
theorem bdN {B : Nat} {a w : World} (h : Below B a w) (n : Nat) : Below B a (w.drewN n) := ⟨h.os, h.tape, h.output, h.size, h.block⟩
theorem ceAt_k {l : List CeR} {i : Nat} {c : CeR} (h : l[i]? = some c) : ceAt l i = (ceB c && (emB c.ad || (l.take i).all (fun x => decide (¬ x.ad = c.ad)))) := by
  unfold ceAt
  rw [h]
def c1B (kd : Int) (sb : Bool) (lo hi : Int) : Bool := decide ((1 ≤ kd ∧ kd ≤ 20) ∧ (sb = true → (2 ≤ kd ∧ kd ≤ 9) ∧ lo ≤ hi) ∧ (sb = false → lo = 0 ∧ hi = 0))
def c2B (kd mx ik : Int) : Bool := decide (ik = kd ∧ (kd = 19 → 0 ≤ mx ∧ mx ≤ 254) ∧ (¬ kd = 19 → mx = 0))
theorem inB_d (a b x : Int) : inB a b x = decide (a ≤ x ∧ x ≤ b) := by unfold inB; by_cases h : a ≤ x <;> by_cases g : x ≤ b <;> simp [h, g]
theorem bd_split (c : CeR) : (inB 1 20 c.kd && bdB c && decide (c.ik = c.kd)) = (c1B c.kd c.sb c.lo c.hi && c2B c.kd c.mx c.ik) := by
  unfold bdB c1B c2B
  rw [inB_d, inB_d, inB_d]
  rw [Bool.eq_iff_iff]
  cases hs : c.sb <;> by_cases h9 : c.kd = 19 <;> simp [h9] <;> omega
theorem ik_kd {c : CeR} (h : bgB c = true) : c.ik = c.kd := by
  unfold bgB at h
  by_cases q : c.kd = 20
  · rw [if_pos q] at h
    unfold nwB at h
    simp only [Bool.and_eq_true, decide_eq_true_eq] at h
    rw [q, h.1.1]
  · rw [if_neg q] at h
    have h' := of_decide_eq_true h
    unfold fitsF at h'
    by_cases e : c.ik = c.kd
    · exact e
    · rw [if_pos (Or.inr e)] at h'; exact absurd h' (by decide)
theorem ce_c1 {c : CeR} (h : c1B c.kd c.sb c.lo c.hi = false) : ceB c = false := by
  cases q : ceB c
  · rfl
  unfold ceB at q
  simp only [Bool.and_eq_true] at q
  have := bd_split c
  rw [h, q.1.1.1.1, q.1.1.2, ik_kd q.1.2] at this
  simp at this
theorem ce_c2 {c : CeR} (h : c2B c.kd c.mx c.ik = false) : ceB c = false := by
  cases q : ceB c
  · rfl
  unfold ceB at q
  simp only [Bool.and_eq_true] at q
  have := bd_split c
  rw [h, q.1.1.1.1, q.1.1.2, ik_kd q.1.2] at this
  simp at this
theorem ce_ref {c : CeR} (q : c.kd = 20) (h : ¬ (c.ib = 0 ∧ emB c.is = true ∧ c.kp = false)) : ceB c = false := by
  cases p : ceB c
  · rfl
  unfold ceB at p
  simp only [Bool.and_eq_true] at p
  have b := p.1.2
  unfold bgB nwB at b
  rw [if_pos q] at b
  simp only [Bool.and_eq_true, decide_eq_true_eq] at b
  exact absurd ⟨b.1.2, b.2, by have := p.1.1.1.2; rw [decide_eq_true q, Bool.true_and] at this; simpa using this⟩ h
theorem ce_fit {c : CeR} (q : ¬ c.kd = 20) (h : ¬ fitsF c.ik c.ib c.is c.kd c.sb c.lo c.hi c.mx = 0) : ceB c = false := by
  cases p : ceB c
  · rfl
  unfold ceB at p
  simp only [Bool.and_eq_true] at p
  have b := p.1.2
  unfold bgB at b
  rw [if_neg q] at b
  exact absurd (of_decide_eq_true b) h
theorem ce_on {c : CeR} (h1 : c1B c.kd c.sb c.lo c.hi = true) (h2 : c2B c.kd c.mx c.ik = true) (h3 : c.kd = 20 → c.ib = 0 ∧ emB c.is = true ∧ c.kp = false) (h4 : ¬ c.kd = 20 → fitsF c.ik c.ib c.is c.kd c.sb c.lo c.hi c.mx = 0) : ceB c = liB c := by
  have s := bd_split c
  rw [h1, h2] at s
  simp only [Bool.and_self, Bool.and_eq_true, decide_eq_true_eq] at s
  unfold ceB bgB nwB
  rw [s.1.1, s.1.2]
  by_cases q : c.kd = 20
  · obtain ⟨a, b, d⟩ := h3 q
    rw [if_pos q, s.2, q, a, b, d]
    simp
  · rw [if_neg q, h4 q, decide_eq_false q]
    simp
end Go.Proofs.YtdcjngakmkgbmaaGreat
namespace Go.Proofs.YtdcjngakmkgbmaaGreat.Ty
set_option linter.unusedVariables false
set_option linter.unusedSimpArgs false
open Go.RowKit
set_option maxRecDepth 20000 in
set_option maxHeartbeats 8000000 in
theorem RlNt (g kb o c : Nat) (bs : List Nat) (rd : RS → Int × RS)
    (hE : ∀ (s : RS) (W : World), Rd g kb o c bs s W → Calls Tryz.prog 103 #[.pointer (some ⟨g, 0, none⟩)] W fun e w' => e = .returned (.int .i64 (rd s).1) ∧ Rd g kb o c bs (rd s).2 w' ∧ W.grownBy w' (some g))
    (s : RS) (w : World) (h : Rd g kb o c bs s w) :
    Calls Tryz.prog 109 #[.pointer (some ⟨g, 0, none⟩), .func (.func 103) #[.pointer (some ⟨g, 0, none⟩)] #[]] w fun e w' => (∃ y k, e = .returned (.slice y (rdL rd bs s).1.length k) ∧ RwT 3 1 ((fun S w => Is inC) (Fresh w.heap.size w'.heap.size) w') (Fresh w.heap.size w'.heap.size) w' y k (rdL rd bs s).1) ∧ Rd g kb o c bs (rdL rd bs s).2 w' ∧ w.grownBy w' (some g) := by
  have CT : Hid (Calls Tryz.prog 99 #[.pointer (some ⟨g, 0, none⟩)] w fun e w' => e = .returned (.int .i64 (rdC bs s).1) ∧ Rd g kb o c bs (rdC bs s).2 w' ∧ w.grownBy w' (some g)) := cntM g kb o c bs s w h
  have OK : Hid ((rdC bs s).2.y = 0 → 0 ≤ (rdC bs s).1 ∧ (rdC bs s).1.toNat ≤ 4194304) := fun q => by have := rdC_ok q; have := h.n4; omega
  have GL : Hid (g < w.heap.size) := h.lt
  have HE : Hid _ := hE
  show Calls _ _ _ _ fun e w' => (∃ y k, e = .returned (.slice y (rdKL rd (rdC bs s).1.toNat (rdC bs s).2).length k) ∧ RwT 3 1 ((fun S w => Is inC) (Fresh w.heap.size w'.heap.size) w') (Fresh w.heap.size w'.heap.size) w' y k (rdKL rd (rdC bs s).1.toNat (rdC bs s).2)) ∧ Rd g kb o c bs (rdKS rd (rdC bs s).1.toNat (rdC bs s).2) w' ∧ w.grownBy w' (some g)
  generalize (rdC bs s).1 = N at *
  generalize (rdC bs s).2 = s1 at *
  clear h hE
  go_enter Tryz.func109, Tryz.ntmps109
  go_upto_region 2 with fail
  go_wp2_with (go_at_call 99; refine (CT.out).mono ?_)
  first | (rintro e w1 ⟨he, h1, g1⟩; have he' := he) | (rintro e w1 he h1 g1)
  subst he
  have R1 : Hid (Rd g kb o c bs s1 w1) := h1
  have G1 : Hid (w.grownBy w1 (some g)) := g1
  have GB : Hid (g < w1.heap.size) := h1.lt
  clear h1 g1
  go_wp2
  go_loopw [5, 8] (fun v i wr => ∃ (k : Nat) (t : RS), i = .int .i64 k ∧ LsI rd N.toNat s1 k t ∧ MkI 3 1 (fun S w => Is inC) w1.heap.size (rdKL rd N.toNat s1) k v wr ∧ Rd g kb o c bs t wr ∧ w1.grownBy wr (some g)) (fun _ i _ => N.toNat - (intOf i).toNat)
  case atStart => exact ⟨0, s1, rfl, LsI.zero, MkI.zero _ _ _ _ _ _, R1.out, gb_refl _ _⟩
  case round =>
    obtain ⟨k, t, rfl, hL, hM, hR, hG⟩ := hrel
    have LI : Hid (LsI rd N.toNat s1 k t) := hL
    have MI : Hid (MkI 3 1 (fun S w => Is inC) w1.heap.size (rdKL rd N.toNat s1) k u5 wr) := hM
    have RI : Hid (Rd g kb o c bs t wr) := hR
    have GI : Hid (w1.grownBy wr (some g)) := hG
    have fin : Hid (k = N.toNat ∨ t.y ≠ 0 → (∃ y c2, u5 = .slice y (rdKL rd N.toNat s1).length c2 ∧ RwT 3 1 ((fun S w => Is inC) (Fresh w.heap.size wr.heap.size) wr) (Fresh w.heap.size wr.heap.size) wr y c2 (rdKL rd N.toNat s1)) ∧ Rd g kb o c bs (rdKS rd N.toNat s1) wr ∧ w.grownBy wr (some g)) := fun q => by
      obtain ⟨e1, e2⟩ := hL.last q
      rw [e2]
      have fe : few (rdKL rd N.toNat s1).length := by
        have := rdKL_len rd N.toNat s1
        by_cases z : s1.y = 0
        · have := OK.out z; show _ < _; omega
        · rw [rdKL_bad rd _ z]; show 0 < _; omega
      have hM2 := hM
      rw [← e1] at hM2
      obtain ⟨y, c2, ey, hy⟩ := mk_done (keptI _) hM2 fe
      exact ⟨⟨y, c2, ey, (hy.subK (keptI _) (up_sub' G1.out.size (Nat.le_refl _)))⟩, hR, gb_trans G1.out hG⟩
    clear hL hM hR hG
    by_cases hlt : (k : Int) < N
    · by_cases hy : t.y = 0
      · have HB : Hid (Calls Tryz.prog 74 #[.pointer (some ⟨g, 0, none⟩)] wr fun e w' => e = .returned (.bool false) ∧ w' = wr) := by
          have q := failedX g _ _ _ _ _ _ wr RI.out.at_
          rw [hy] at q
          exact q
        have NX : Hid (LsI rd N.toNat s1 (k + 1) (rd t).2) := LI.out.next (by omega) hy
        have GE : Hid ((rdKL rd N.toNat s1)[k]? = some (rd t).1) := LI.out.get (by omega) hy
        have LE : Hid (k + 1 ≤ 4194304) := by have := OK.out (LI.out.ok hy); show _ ≤ _; omega
        have LT : Hid ((k : Int) < N) := hlt
        clear hy fin LI
        go_wp2_with (go_at_call 74; refine (HB.out).mono ?_)
        try (first | (rintro e w2 ⟨he, hw⟩; have he' := he; subst he; rw [hw]; clear hw w2) | (rintro e w2 he hw; subst he; rw [hw]; clear hw w2))
        go_wp2_with fail
        refine (HE.out t wr RI.out).mono ?_
        first | (rintro e w5 ⟨he, h5, g5⟩; have he' := he) | (rintro e w5 he h5 g5)
        subst he
        have R5 : Hid (Rd g kb o c bs (rd t).2 w5) := h5
        have G5 : Hid (wr.grownBy w5 (some g)) := g5
        clear h5 g5 RI HE HB
        generalize (rd t).1 = ee at *
        generalize (rd t).2 = t2 at *
        obtain ⟨vss, ehs, hvn, how, hev⟩ := MI.out
        have EHS : Hid (vss.length = k) := ehs
        have HVN : Hid (∀ v ∈ vss, v.length = 1) := hvn
        have OW : Hid (wr.ownsRow w1.heap.size 3 1 u5 k vss.flatten) := how
        have EV : Hid _ := hev
        clear ehs hvn how hev MI
        have ew : wrap64 ((k : Int) + 1) = (k : Int) + 1 := by have := LE.out; unfold wrap64; omega
        have OW5 : Hid (∀ X : Obj, (w5.alloc X).ownsRow w1.heap.size 3 1 u5 k vss.flatten) := fun X => (OW.out.kept G5.out (ob_ne OW.out.lt GB.out)).alloc X
        have NW : Hid (∀ j u, (inC ee)[j]? = some u → (w5.alloc (.cells (inC ee).toArray 3)).cell? ((⟨w5.heap.size, 0, none⟩ : Addr).add j) = some u) := fun j u h => mk_cells w5 _ _ j u h
        have BZ : Hid (∀ X : Obj, w1.heap.size ≤ (w5.alloc X).heap.size) := fun X => by have := GI.out.size; have := G5.out.size; simp; omega
        have I : Hid _ := infRlN
        go_wp2_with (at_builtin; obtain ⟨i, z, hi, hz, hs', hy, hzc⟩ := I.out; refine wpList_append_own_at _ rfl _ _ 49 rfl w1.heap.size 3 i z 1 8 Tryz.underlying49 hi hz hs' hy hzc (by decide) u5 k vss.flatten rfl (OW5.out _) ⟨w5.heap.size, 0, none⟩ 1 1 (inC ee) rfl rfl NW.out (by intro u hu; simp at hu; subst hu; rfl) (by have := LE.out; simp [maxLen]; omega) (by have := LE.out; omega) (BZ.out _) ?_; intro v' w7 q1 q2 q3 q4; have Q1 : Hid _ := q1; have Q2 : Hid _ := q2; have Q4 : Hid _ := q4; clear q1 q2 q3 q4 hi hz hs' hy hzc)
        rw [ew]
        have B5 : wr.grownBy (w5.alloc (.cells (inC ee).toArray 3)) (some g) := gb_trans G5.out (gb_alloc _ _ _)
        have hob : ∀ i, u5.ownBlock = some i → w1.heap.size ≤ i := fun i hi => (OW.out.lt i hi).1
        refine ⟨⟨k + 1, t2, rfl, NX.out, mk_stepG (keptI _) GB.out EHS.out HVN.out EV.out OW.out.lt _ _ GE.out rfl GI.out.size B5 rfl Q2.out Q1.out Q4.out, ?_, ?_⟩, ?_⟩
        · exact (R5.out.al _).grown Q2.out (fun q => by have := hob _ q; have := GB.out; omega) (fun q => by have := hob _ q; have := R1.out.kl; omega)
        · exact gb_own (gb_trans GI.out B5) Q2.out hob
        · have := LT.out
          show N.toNat - ((k : Int) + 1).toNat < N.toNat - (k : Int).toNat
          omega
      · have HB : Hid (Calls Tryz.prog 74 #[.pointer (some ⟨g, 0, none⟩)] wr fun e w' => e = .returned (.bool true) ∧ w' = wr) := by
          have q := failedX g _ _ _ _ _ _ wr RI.out.at_
          rw [show (t.y != 0) = true by simp [hy]] at q
          exact q
        obtain ⟨⟨y, c2, ev, hy2⟩, hr2, hg2⟩ := fin.out (Or.inr hy)
        subst ev
        have Y2 : Hid _ := hy2
        have R2 : Hid _ := hr2
        have G2 : Hid _ := hg2
        clear hy hy2 hr2 hg2 fin LI MI RI GI
        go_wp2_with (go_at_call 74; refine (HB.out).mono ?_)
        try (first | (rintro e w2 ⟨he, hw⟩; have he' := he; subst he; rw [hw]; clear hw w2) | (rintro e w2 he hw; subst he; rw [hw]; clear hw w2))
        go_wp2
        go_ret
        first | exact ⟨⟨y, ⟨c2, rfl⟩, Y2.out⟩, R2.out, G2.out⟩ | exact ⟨⟨y, c2, rfl, Y2.out⟩, R2.out, G2.out⟩
    · obtain ⟨⟨y, c2, ev, hy2⟩, hr2, hg2⟩ := fin.out (Or.inl (by have := LI.out.1; omega))
      subst ev
      have Y2 : Hid _ := hy2
      have R2 : Hid _ := hr2
      have G2 : Hid _ := hg2
      clear hy2 hr2 hg2 fin LI MI RI GI
      go_wp2
      go_ret
      first | exact ⟨⟨y, ⟨c2, rfl⟩, Y2.out⟩, R2.out, G2.out⟩ | exact ⟨⟨y, c2, rfl, Y2.out⟩, R2.out, G2.out⟩
set_option maxRecDepth 20000 in
set_option maxHeartbeats 8000000 in
theorem RlLt (g kb o c : Nat) (bs : List Nat) (rd : RS → LpR × RS)
    (hE : ∀ (s : RS) (W : World), Rd g kb o c bs s W → Calls Tryz.prog 108 #[.pointer (some ⟨g, 0, none⟩)] W fun e w' => e = .returned (.agg #[.int .i64 (rd s).1.hd, .int .i64 (rd s).1.en, .int .i64 (rd s).1.tm]) ∧ Rd g kb o c bs (rd s).2 w' ∧ W.grownBy w' (some g))
    (s : RS) (w : World) (h : Rd g kb o c bs s w) :
    Calls Tryz.prog 107 #[.pointer (some ⟨g, 0, none⟩), .func (.func 108) #[.pointer (some ⟨g, 0, none⟩)] #[]] w fun e w' => (∃ y k, e = .returned (.slice y (rdL rd bs s).1.length k) ∧ RwT 48 3 ((fun S w => Is lpC) (Fresh w.heap.size w'.heap.size) w') (Fresh w.heap.size w'.heap.size) w' y k (rdL rd bs s).1) ∧ Rd g kb o c bs (rdL rd bs s).2 w' ∧ w.grownBy w' (some g) := by
  have CT : Hid (Calls Tryz.prog 99 #[.pointer (some ⟨g, 0, none⟩)] w fun e w' => e = .returned (.int .i64 (rdC bs s).1) ∧ Rd g kb o c bs (rdC bs s).2 w' ∧ w.grownBy w' (some g)) := cntM g kb o c bs s w h
  have OK : Hid ((rdC bs s).2.y = 0 → 0 ≤ (rdC bs s).1 ∧ (rdC bs s).1.toNat ≤ 4194304) := fun q => by have := rdC_ok q; have := h.n4; omega
  have GL : Hid (g < w.heap.size) := h.lt
  have HE : Hid _ := hE
  show Calls _ _ _ _ fun e w' => (∃ y k, e = .returned (.slice y (rdKL rd (rdC bs s).1.toNat (rdC bs s).2).length k) ∧ RwT 48 3 ((fun S w => Is lpC) (Fresh w.heap.size w'.heap.size) w') (Fresh w.heap.size w'.heap.size) w' y k (rdKL rd (rdC bs s).1.toNat (rdC bs s).2)) ∧ Rd g kb o c bs (rdKS rd (rdC bs s).1.toNat (rdC bs s).2) w' ∧ w.grownBy w' (some g)
  generalize (rdC bs s).1 = N at *
  generalize (rdC bs s).2 = s1 at *
  clear h hE
  go_enter Tryz.func107, Tryz.ntmps107
  go_upto_region 2 with fail
  go_wp2_with (go_at_call 99; refine (CT.out).mono ?_)
  first | (rintro e w1 ⟨he, h1, g1⟩; have he' := he) | (rintro e w1 he h1 g1)
  subst he
  have R1 : Hid (Rd g kb o c bs s1 w1) := h1
  have G1 : Hid (w.grownBy w1 (some g)) := g1
  have GB : Hid (g < w1.heap.size) := h1.lt
  clear h1 g1
  go_wp2
  go_loopw [5, 8] (fun v i wr => ∃ (k : Nat) (t : RS), i = .int .i64 k ∧ LsI rd N.toNat s1 k t ∧ MkI 48 3 (fun S w => Is lpC) w1.heap.size (rdKL rd N.toNat s1) k v wr ∧ Rd g kb o c bs t wr ∧ w1.grownBy wr (some g)) (fun _ i _ => N.toNat - (intOf i).toNat)
  case atStart => exact ⟨0, s1, rfl, LsI.zero, MkI.zero _ _ _ _ _ _, R1.out, gb_refl _ _⟩
  case round =>
    obtain ⟨k, t, rfl, hL, hM, hR, hG⟩ := hrel
    have LI : Hid (LsI rd N.toNat s1 k t) := hL
    have MI : Hid (MkI 48 3 (fun S w => Is lpC) w1.heap.size (rdKL rd N.toNat s1) k u5 wr) := hM
    have RI : Hid (Rd g kb o c bs t wr) := hR
    have GI : Hid (w1.grownBy wr (some g)) := hG
    have fin : Hid (k = N.toNat ∨ t.y ≠ 0 → (∃ y c2, u5 = .slice y (rdKL rd N.toNat s1).length c2 ∧ RwT 48 3 ((fun S w => Is lpC) (Fresh w.heap.size wr.heap.size) wr) (Fresh w.heap.size wr.heap.size) wr y c2 (rdKL rd N.toNat s1)) ∧ Rd g kb o c bs (rdKS rd N.toNat s1) wr ∧ w.grownBy wr (some g)) := fun q => by
      obtain ⟨e1, e2⟩ := hL.last q
      rw [e2]
      have fe : few (rdKL rd N.toNat s1).length := by
        have := rdKL_len rd N.toNat s1
        by_cases z : s1.y = 0
        · have := OK.out z; show _ < _; omega
        · rw [rdKL_bad rd _ z]; show 0 < _; omega
      have hM2 := hM
      rw [← e1] at hM2
      obtain ⟨y, c2, ey, hy⟩ := mk_done (keptI _) hM2 fe
      exact ⟨⟨y, c2, ey, (hy.subK (keptI _) (up_sub' G1.out.size (Nat.le_refl _)))⟩, hR, gb_trans G1.out hG⟩
    clear hL hM hR hG
    by_cases hlt : (k : Int) < N
    · by_cases hy : t.y = 0
      · have HB : Hid (Calls Tryz.prog 74 #[.pointer (some ⟨g, 0, none⟩)] wr fun e w' => e = .returned (.bool false) ∧ w' = wr) := by
          have q := failedX g _ _ _ _ _ _ wr RI.out.at_
          rw [hy] at q
          exact q
        have NX : Hid (LsI rd N.toNat s1 (k + 1) (rd t).2) := LI.out.next (by omega) hy
        have GE : Hid ((rdKL rd N.toNat s1)[k]? = some (rd t).1) := LI.out.get (by omega) hy
        have LE : Hid (k + 1 ≤ 4194304) := by have := OK.out (LI.out.ok hy); show _ ≤ _; omega
        have LT : Hid ((k : Int) < N) := hlt
        clear hy fin LI
        go_wp2_with (go_at_call 74; refine (HB.out).mono ?_)
        try (first | (rintro e w2 ⟨he, hw⟩; have he' := he; subst he; rw [hw]; clear hw w2) | (rintro e w2 he hw; subst he; rw [hw]; clear hw w2))
        go_wp2_with fail
        refine (HE.out t wr RI.out).mono ?_
        first | (rintro e w5 ⟨he, h5, g5⟩; have he' := he) | (rintro e w5 he h5 g5)
        subst he
        have R5 : Hid (Rd g kb o c bs (rd t).2 w5) := h5
        have G5 : Hid (wr.grownBy w5 (some g)) := g5
        clear h5 g5 RI HE HB
        generalize (rd t).1 = ee at *
        generalize (rd t).2 = t2 at *
        obtain ⟨vss, ehs, hvn, how, hev⟩ := MI.out
        have EHS : Hid (vss.length = k) := ehs
        have HVN : Hid (∀ v ∈ vss, v.length = 3) := hvn
        have OW : Hid (wr.ownsRow w1.heap.size 48 3 u5 k vss.flatten) := how
        have EV : Hid _ := hev
        clear ehs hvn how hev MI
        have ew : wrap64 ((k : Int) + 1) = (k : Int) + 1 := by have := LE.out; unfold wrap64; omega
        have OW5 : Hid (∀ X : Obj, (w5.alloc X).ownsRow w1.heap.size 48 3 u5 k vss.flatten) := fun X => (OW.out.kept G5.out (ob_ne OW.out.lt GB.out)).alloc X
        have NW : Hid (∀ j u, (lpC ee)[j]? = some u → (w5.alloc (.cells (lpC ee).toArray 48)).cell? ((⟨w5.heap.size, 0, none⟩ : Addr).add j) = some u) := fun j u h => mk_cells w5 _ _ j u h
        have BZ : Hid (∀ X : Obj, w1.heap.size ≤ (w5.alloc X).heap.size) := fun X => by have := GI.out.size; have := G5.out.size; simp; omega
        have I : Hid _ := infRlL
        go_wp2_with (at_builtin; obtain ⟨i, z, hi, hz, hs', hy, hzc⟩ := I.out; refine wpList_append_own_at _ rfl _ _ 42 rfl w1.heap.size 48 i z 3 24 Tryz.underlying42 hi hz hs' hy hzc (by decide) u5 k vss.flatten rfl (OW5.out _) ⟨w5.heap.size, 0, none⟩ 1 1 (lpC ee) rfl rfl NW.out (by intro u hu; simp at hu; rcases hu with h | h | h <;> subst h <;> rfl) (by have := LE.out; simp [maxLen]; omega) (by have := LE.out; omega) (BZ.out _) ?_; intro v' w7 q1 q2 q3 q4; have Q1 : Hid _ := q1; have Q2 : Hid _ := q2; have Q4 : Hid _ := q4; clear q1 q2 q3 q4 hi hz hs' hy hzc)
        rw [ew]
        have B5 : wr.grownBy (w5.alloc (.cells (lpC ee).toArray 48)) (some g) := gb_trans G5.out (gb_alloc _ _ _)
        have hob : ∀ i, u5.ownBlock = some i → w1.heap.size ≤ i := fun i hi => (OW.out.lt i hi).1
        refine ⟨⟨k + 1, t2, rfl, NX.out, mk_stepG (keptI _) GB.out EHS.out HVN.out EV.out OW.out.lt _ _ GE.out rfl GI.out.size B5 rfl Q2.out Q1.out Q4.out, ?_, ?_⟩, ?_⟩
        · exact (R5.out.al _).grown Q2.out (fun q => by have := hob _ q; have := GB.out; omega) (fun q => by have := hob _ q; have := R1.out.kl; omega)
        · exact gb_own (gb_trans GI.out B5) Q2.out hob
        · have := LT.out
          show N.toNat - ((k : Int) + 1).toNat < N.toNat - (k : Int).toNat
          omega
      · have HB : Hid (Calls Tryz.prog 74 #[.pointer (some ⟨g, 0, none⟩)] wr fun e w' => e = .returned (.bool true) ∧ w' = wr) := by
          have q := failedX g _ _ _ _ _ _ wr RI.out.at_
          rw [show (t.y != 0) = true by simp [hy]] at q
          exact q
        obtain ⟨⟨y, c2, ev, hy2⟩, hr2, hg2⟩ := fin.out (Or.inr hy)
        subst ev
        have Y2 : Hid _ := hy2
        have R2 : Hid _ := hr2
        have G2 : Hid _ := hg2
        clear hy hy2 hr2 hg2 fin LI MI RI GI
        go_wp2_with (go_at_call 74; refine (HB.out).mono ?_)
        try (first | (rintro e w2 ⟨he, hw⟩; have he' := he; subst he; rw [hw]; clear hw w2) | (rintro e w2 he hw; subst he; rw [hw]; clear hw w2))
        go_wp2
        go_ret
        first | exact ⟨⟨y, ⟨c2, rfl⟩, Y2.out⟩, R2.out, G2.out⟩ | exact ⟨⟨y, c2, rfl, Y2.out⟩, R2.out, G2.out⟩
    · obtain ⟨⟨y, c2, ev, hy2⟩, hr2, hg2⟩ := fin.out (Or.inl (by have := LI.out.1; omega))
      subst ev
      have Y2 : Hid _ := hy2
      have R2 : Hid _ := hr2
      have G2 : Hid _ := hg2
      clear hy2 hr2 hg2 fin LI MI RI GI
      go_wp2
      go_ret
      first | exact ⟨⟨y, ⟨c2, rfl⟩, Y2.out⟩, R2.out, G2.out⟩ | exact ⟨⟨y, c2, rfl, Y2.out⟩, R2.out, G2.out⟩
set_option maxRecDepth 20000 in
set_option maxHeartbeats 8000000 in
theorem RlOt (g kb o c : Nat) (bs : List Nat) (rd : RS → OpR × RS)
    (hE : ∀ (s : RS) (W : World), Rd g kb o c bs s W → Calls Tryz.prog 106 #[.pointer (some ⟨g, 0, none⟩)] W fun e w' => e = .returned (.agg #[.int .i64 (rd s).1.cd, .int .i64 (rd s).1.a, .int .i64 (rd s).1.b, .int .i64 (rd s).1.c, .int .i64 (rd s).1.d, .int .i64 (rd s).1.lo, .int .i64 (rd s).1.hi, .int .u8 (rd s).1.vk, .int .u64 (rd s).1.vb, .string (rd s).1.vs]) ∧ Rd g kb o c bs (rd s).2 w' ∧ W.grownBy w' (some g))
    (s : RS) (w : World) (h : Rd g kb o c bs s w) :
    Calls Tryz.prog 105 #[.pointer (some ⟨g, 0, none⟩), .func (.func 106) #[.pointer (some ⟨g, 0, none⟩)] #[]] w fun e w' => (∃ y k, e = .returned (.slice y (rdL rd bs s).1.length k) ∧ RwT 46 10 ((fun S w => Is opC) (Fresh w.heap.size w'.heap.size) w') (Fresh w.heap.size w'.heap.size) w' y k (rdL rd bs s).1) ∧ Rd g kb o c bs (rdL rd bs s).2 w' ∧ w.grownBy w' (some g) := by
  have CT : Hid (Calls Tryz.prog 99 #[.pointer (some ⟨g, 0, none⟩)] w fun e w' => e = .returned (.int .i64 (rdC bs s).1) ∧ Rd g kb o c bs (rdC bs s).2 w' ∧ w.grownBy w' (some g)) := cntM g kb o c bs s w h
  have OK : Hid ((rdC bs s).2.y = 0 → 0 ≤ (rdC bs s).1 ∧ (rdC bs s).1.toNat ≤ 4194304) := fun q => by have := rdC_ok q; have := h.n4; omega
  have GL : Hid (g < w.heap.size) := h.lt
  have HE : Hid _ := hE
  show Calls _ _ _ _ fun e w' => (∃ y k, e = .returned (.slice y (rdKL rd (rdC bs s).1.toNat (rdC bs s).2).length k) ∧ RwT 46 10 ((fun S w => Is opC) (Fresh w.heap.size w'.heap.size) w') (Fresh w.heap.size w'.heap.size) w' y k (rdKL rd (rdC bs s).1.toNat (rdC bs s).2)) ∧ Rd g kb o c bs (rdKS rd (rdC bs s).1.toNat (rdC bs s).2) w' ∧ w.grownBy w' (some g)
  generalize (rdC bs s).1 = N at *
  generalize (rdC bs s).2 = s1 at *
  clear h hE
  go_enter Tryz.func105, Tryz.ntmps105
  go_upto_region 2 with fail
  go_wp2_with (go_at_call 99; refine (CT.out).mono ?_)
  first | (rintro e w1 ⟨he, h1, g1⟩; have he' := he) | (rintro e w1 he h1 g1)
  subst he
  have R1 : Hid (Rd g kb o c bs s1 w1) := h1
  have G1 : Hid (w.grownBy w1 (some g)) := g1
  have GB : Hid (g < w1.heap.size) := h1.lt
  clear h1 g1
  go_wp2
  go_loopw [5, 8] (fun v i wr => ∃ (k : Nat) (t : RS), i = .int .i64 k ∧ LsI rd N.toNat s1 k t ∧ MkI 46 10 (fun S w => Is opC) w1.heap.size (rdKL rd N.toNat s1) k v wr ∧ Rd g kb o c bs t wr ∧ w1.grownBy wr (some g)) (fun _ i _ => N.toNat - (intOf i).toNat)
  case atStart => exact ⟨0, s1, rfl, LsI.zero, MkI.zero _ _ _ _ _ _, R1.out, gb_refl _ _⟩
  case round =>
    obtain ⟨k, t, rfl, hL, hM, hR, hG⟩ := hrel
    have LI : Hid (LsI rd N.toNat s1 k t) := hL
    have MI : Hid (MkI 46 10 (fun S w => Is opC) w1.heap.size (rdKL rd N.toNat s1) k u5 wr) := hM
    have RI : Hid (Rd g kb o c bs t wr) := hR
    have GI : Hid (w1.grownBy wr (some g)) := hG
    have fin : Hid (k = N.toNat ∨ t.y ≠ 0 → (∃ y c2, u5 = .slice y (rdKL rd N.toNat s1).length c2 ∧ RwT 46 10 ((fun S w => Is opC) (Fresh w.heap.size wr.heap.size) wr) (Fresh w.heap.size wr.heap.size) wr y c2 (rdKL rd N.toNat s1)) ∧ Rd g kb o c bs (rdKS rd N.toNat s1) wr ∧ w.grownBy wr (some g)) := fun q => by
      obtain ⟨e1, e2⟩ := hL.last q
      rw [e2]
      have fe : few (rdKL rd N.toNat s1).length := by
        have := rdKL_len rd N.toNat s1
        by_cases z : s1.y = 0
        · have := OK.out z; show _ < _; omega
        · rw [rdKL_bad rd _ z]; show 0 < _; omega
      have hM2 := hM
      rw [← e1] at hM2
      obtain ⟨y, c2, ey, hy⟩ := mk_done (keptI _) hM2 fe
      exact ⟨⟨y, c2, ey, (hy.subK (keptI _) (up_sub' G1.out.size (Nat.le_refl _)))⟩, hR, gb_trans G1.out hG⟩
    clear hL hM hR hG
    by_cases hlt : (k : Int) < N
    · by_cases hy : t.y = 0
      · have HB : Hid (Calls Tryz.prog 74 #[.pointer (some ⟨g, 0, none⟩)] wr fun e w' => e = .returned (.bool false) ∧ w' = wr) := by
          have q := failedX g _ _ _ _ _ _ wr RI.out.at_
          rw [hy] at q
          exact q
        have NX : Hid (LsI rd N.toNat s1 (k + 1) (rd t).2) := LI.out.next (by omega) hy
        have GE : Hid ((rdKL rd N.toNat s1)[k]? = some (rd t).1) := LI.out.get (by omega) hy
        have LE : Hid (k + 1 ≤ 4194304) := by have := OK.out (LI.out.ok hy); show _ ≤ _; omega
        have LT : Hid ((k : Int) < N) := hlt
        clear hy fin LI
        go_wp2_with (go_at_call 74; refine (HB.out).mono ?_)
        try (first | (rintro e w2 ⟨he, hw⟩; have he' := he; subst he; rw [hw]; clear hw w2) | (rintro e w2 he hw; subst he; rw [hw]; clear hw w2))
        go_wp2_with fail
        refine (HE.out t wr RI.out).mono ?_
        first | (rintro e w5 ⟨he, h5, g5⟩; have he' := he) | (rintro e w5 he h5 g5)
        subst he
        have R5 : Hid (Rd g kb o c bs (rd t).2 w5) := h5
        have G5 : Hid (wr.grownBy w5 (some g)) := g5
        clear h5 g5 RI HE HB
        generalize (rd t).1 = ee at *
        generalize (rd t).2 = t2 at *
        obtain ⟨vss, ehs, hvn, how, hev⟩ := MI.out
        have EHS : Hid (vss.length = k) := ehs
        have HVN : Hid (∀ v ∈ vss, v.length = 10) := hvn
        have OW : Hid (wr.ownsRow w1.heap.size 46 10 u5 k vss.flatten) := how
        have EV : Hid _ := hev
        clear ehs hvn how hev MI
        have ew : wrap64 ((k : Int) + 1) = (k : Int) + 1 := by have := LE.out; unfold wrap64; omega
        have OW5 : Hid (∀ X : Obj, (w5.alloc X).ownsRow w1.heap.size 46 10 u5 k vss.flatten) := fun X => (OW.out.kept G5.out (ob_ne OW.out.lt GB.out)).alloc X
        have NW : Hid (∀ j u, (opC ee)[j]? = some u → (w5.alloc (.cells (opC ee).toArray 46)).cell? ((⟨w5.heap.size, 0, none⟩ : Addr).add j) = some u) := fun j u h => mk_cells w5 _ _ j u h
        have BZ : Hid (∀ X : Obj, w1.heap.size ≤ (w5.alloc X).heap.size) := fun X => by have := GI.out.size; have := G5.out.size; simp; omega
        have I : Hid _ := infRlO
        go_wp2_with (at_builtin; obtain ⟨i, z, hi, hz, hs', hy, hzc⟩ := I.out; refine wpList_append_own_at _ rfl _ _ 41 rfl w1.heap.size 46 i z 10 88 Tryz.underlying41 hi hz hs' hy hzc (by decide) u5 k vss.flatten rfl (OW5.out _) ⟨w5.heap.size, 0, none⟩ 1 1 (opC ee) rfl rfl NW.out (by intro u hu; simp at hu; rcases hu with h | h | h | h | h | h | h | h | h | h <;> subst h <;> rfl) (by have := LE.out; simp [maxLen]; omega) (by have := LE.out; omega) (BZ.out _) ?_; intro v' w7 q1 q2 q3 q4; have Q1 : Hid _ := q1; have Q2 : Hid _ := q2; have Q4 : Hid _ := q4; clear q1 q2 q3 q4 hi hz hs' hy hzc)
        rw [ew]
        have B5 : wr.grownBy (w5.alloc (.cells (opC ee).toArray 46)) (some g) := gb_trans G5.out (gb_alloc _ _ _)
        have hob : ∀ i, u5.ownBlock = some i → w1.heap.size ≤ i := fun i hi => (OW.out.lt i hi).1
        refine ⟨⟨k + 1, t2, rfl, NX.out, mk_stepG (keptI _) GB.out EHS.out HVN.out EV.out OW.out.lt _ _ GE.out rfl GI.out.size B5 rfl Q2.out Q1.out Q4.out, ?_, ?_⟩, ?_⟩
        · exact (R5.out.al _).grown Q2.out (fun q => by have := hob _ q; have := GB.out; omega) (fun q => by have := hob _ q; have := R1.out.kl; omega)
        · exact gb_own (gb_trans GI.out B5) Q2.out hob
        · have := LT.out
          show N.toNat - ((k : Int) + 1).toNat < N.toNat - (k : Int).toNat
          omega
      · have HB : Hid (Calls Tryz.prog 74 #[.pointer (some ⟨g, 0, none⟩)] wr fun e w' => e = .returned (.bool true) ∧ w' = wr) := by
          have q := failedX g _ _ _ _ _ _ wr RI.out.at_
          rw [show (t.y != 0) = true by simp [hy]] at q
          exact q
        obtain ⟨⟨y, c2, ev, hy2⟩, hr2, hg2⟩ := fin.out (Or.inr hy)
        subst ev
        have Y2 : Hid _ := hy2
        have R2 : Hid _ := hr2
        have G2 : Hid _ := hg2
        clear hy hy2 hr2 hg2 fin LI MI RI GI
        go_wp2_with (go_at_call 74; refine (HB.out).mono ?_)
        try (first | (rintro e w2 ⟨he, hw⟩; have he' := he; subst he; rw [hw]; clear hw w2) | (rintro e w2 he hw; subst he; rw [hw]; clear hw w2))
        go_wp2
        go_ret
        first | exact ⟨⟨y, ⟨c2, rfl⟩, Y2.out⟩, R2.out, G2.out⟩ | exact ⟨⟨y, c2, rfl, Y2.out⟩, R2.out, G2.out⟩
    · obtain ⟨⟨y, c2, ev, hy2⟩, hr2, hg2⟩ := fin.out (Or.inl (by have := LI.out.1; omega))
      subst ev
      have Y2 : Hid _ := hy2
      have R2 : Hid _ := hr2
      have G2 : Hid _ := hg2
      clear hy2 hr2 hg2 fin LI MI RI GI
      go_wp2
      go_ret
      first | exact ⟨⟨y, ⟨c2, rfl⟩, Y2.out⟩, R2.out, G2.out⟩ | exact ⟨⟨y, c2, rfl, Y2.out⟩, R2.out, G2.out⟩
set_option maxRecDepth 20000 in
set_option maxHeartbeats 8000000 in
theorem RlCt (g kb o c : Nat) (bs : List Nat) (rd : RS → CeR × RS)
    (hE : ∀ (s : RS) (W : World), Rd g kb o c bs s W → Calls Tryz.prog 69 #[.pointer (some ⟨g, 0, none⟩)] W fun e w' => e = .returned (.agg #[.int .u8 (rd s).1.kd, .bool (rd s).1.sb, .int .i64 (rd s).1.lo, .int .i64 (rd s).1.hi, .int .i64 (rd s).1.mx, .int .u8 (rd s).1.ik, .int .u64 (rd s).1.ib, .string (rd s).1.is, .bool (rd s).1.kp, .int .i64 (rd s).1.dr, .string (rd s).1.ad]) ∧ Rd g kb o c bs (rd s).2 w' ∧ W.grownBy w' (some g))
    (s : RS) (w : World) (h : Rd g kb o c bs s w) :
    Calls Tryz.prog 68 #[.pointer (some ⟨g, 0, none⟩), .func (.func 69) #[.pointer (some ⟨g, 0, none⟩)] #[]] w fun e w' => (∃ y k, e = .returned (.slice y (rdL rd bs s).1.length k) ∧ RwT 40 11 ((fun S w => Is ceC) (Fresh w.heap.size w'.heap.size) w') (Fresh w.heap.size w'.heap.size) w' y k (rdL rd bs s).1) ∧ Rd g kb o c bs (rdL rd bs s).2 w' ∧ w.grownBy w' (some g) := by
  have CT : Hid (Calls Tryz.prog 99 #[.pointer (some ⟨g, 0, none⟩)] w fun e w' => e = .returned (.int .i64 (rdC bs s).1) ∧ Rd g kb o c bs (rdC bs s).2 w' ∧ w.grownBy w' (some g)) := cntM g kb o c bs s w h
  have OK : Hid ((rdC bs s).2.y = 0 → 0 ≤ (rdC bs s).1 ∧ (rdC bs s).1.toNat ≤ 4194304) := fun q => by have := rdC_ok q; have := h.n4; omega
  have GL : Hid (g < w.heap.size) := h.lt
  have HE : Hid _ := hE
  show Calls _ _ _ _ fun e w' => (∃ y k, e = .returned (.slice y (rdKL rd (rdC bs s).1.toNat (rdC bs s).2).length k) ∧ RwT 40 11 ((fun S w => Is ceC) (Fresh w.heap.size w'.heap.size) w') (Fresh w.heap.size w'.heap.size) w' y k (rdKL rd (rdC bs s).1.toNat (rdC bs s).2)) ∧ Rd g kb o c bs (rdKS rd (rdC bs s).1.toNat (rdC bs s).2) w' ∧ w.grownBy w' (some g)
  generalize (rdC bs s).1 = N at *
  generalize (rdC bs s).2 = s1 at *
  clear h hE
  go_enter Tryz.func68, Tryz.ntmps68
  go_upto_region 2 with fail
  go_wp2_with (go_at_call 99; refine (CT.out).mono ?_)
  first | (rintro e w1 ⟨he, h1, g1⟩; have he' := he) | (rintro e w1 he h1 g1)
  subst he
  have R1 : Hid (Rd g kb o c bs s1 w1) := h1
  have G1 : Hid (w.grownBy w1 (some g)) := g1
  have GB : Hid (g < w1.heap.size) := h1.lt
  clear h1 g1
  go_wp2
  go_loopw [5, 8] (fun v i wr => ∃ (k : Nat) (t : RS), i = .int .i64 k ∧ LsI rd N.toNat s1 k t ∧ MkI 40 11 (fun S w => Is ceC) w1.heap.size (rdKL rd N.toNat s1) k v wr ∧ Rd g kb o c bs t wr ∧ w1.grownBy wr (some g)) (fun _ i _ => N.toNat - (intOf i).toNat)
  case atStart => exact ⟨0, s1, rfl, LsI.zero, MkI.zero _ _ _ _ _ _, R1.out, gb_refl _ _⟩
  case round =>
    obtain ⟨k, t, rfl, hL, hM, hR, hG⟩ := hrel
    have LI : Hid (LsI rd N.toNat s1 k t) := hL
    have MI : Hid (MkI 40 11 (fun S w => Is ceC) w1.heap.size (rdKL rd N.toNat s1) k u5 wr) := hM
    have RI : Hid (Rd g kb o c bs t wr) := hR
    have GI : Hid (w1.grownBy wr (some g)) := hG
    have fin : Hid (k = N.toNat ∨ t.y ≠ 0 → (∃ y c2, u5 = .slice y (rdKL rd N.toNat s1).length c2 ∧ RwT 40 11 ((fun S w => Is ceC) (Fresh w.heap.size wr.heap.size) wr) (Fresh w.heap.size wr.heap.size) wr y c2 (rdKL rd N.toNat s1)) ∧ Rd g kb o c bs (rdKS rd N.toNat s1) wr ∧ w.grownBy wr (some g)) := fun q => by
      obtain ⟨e1, e2⟩ := hL.last q
      rw [e2]
      have fe : few (rdKL rd N.toNat s1).length := by
        have := rdKL_len rd N.toNat s1
        by_cases z : s1.y = 0
        · have := OK.out z; show _ < _; omega
        · rw [rdKL_bad rd _ z]; show 0 < _; omega
      have hM2 := hM
      rw [← e1] at hM2
      obtain ⟨y, c2, ey, hy⟩ := mk_done (keptI _) hM2 fe
      exact ⟨⟨y, c2, ey, (hy.subK (keptI _) (up_sub' G1.out.size (Nat.le_refl _)))⟩, hR, gb_trans G1.out hG⟩
    clear hL hM hR hG
    by_cases hlt : (k : Int) < N
    · by_cases hy : t.y = 0
      · have HB : Hid (Calls Tryz.prog 74 #[.pointer (some ⟨g, 0, none⟩)] wr fun e w' => e = .returned (.bool false) ∧ w' = wr) := by
          have q := failedX g _ _ _ _ _ _ wr RI.out.at_
          rw [hy] at q
          exact q
        have NX : Hid (LsI rd N.toNat s1 (k + 1) (rd t).2) := LI.out.next (by omega) hy
        have GE : Hid ((rdKL rd N.toNat s1)[k]? = some (rd t).1) := LI.out.get (by omega) hy
        have LE : Hid (k + 1 ≤ 4194304) := by have := OK.out (LI.out.ok hy); show _ ≤ _; omega
        have LT : Hid ((k : Int) < N) := hlt
        clear hy fin LI
        go_wp2_with (go_at_call 74; refine (HB.out).mono ?_)
        try (first | (rintro e w2 ⟨he, hw⟩; have he' := he; subst he; rw [hw]; clear hw w2) | (rintro e w2 he hw; subst he; rw [hw]; clear hw w2))
        go_wp2_with fail
        refine (HE.out t wr RI.out).mono ?_
        first | (rintro e w5 ⟨he, h5, g5⟩; have he' := he) | (rintro e w5 he h5 g5)
        subst he
        have R5 : Hid (Rd g kb o c bs (rd t).2 w5) := h5
        have G5 : Hid (wr.grownBy w5 (some g)) := g5
        clear h5 g5 RI HE HB
        generalize (rd t).1 = ee at *
        generalize (rd t).2 = t2 at *
        obtain ⟨vss, ehs, hvn, how, hev⟩ := MI.out
        have EHS : Hid (vss.length = k) := ehs
        have HVN : Hid (∀ v ∈ vss, v.length = 11) := hvn
        have OW : Hid (wr.ownsRow w1.heap.size 40 11 u5 k vss.flatten) := how
        have EV : Hid _ := hev
        clear ehs hvn how hev MI
        have ew : wrap64 ((k : Int) + 1) = (k : Int) + 1 := by have := LE.out; unfold wrap64; omega
        have OW5 : Hid (∀ X : Obj, (w5.alloc X).ownsRow w1.heap.size 40 11 u5 k vss.flatten) := fun X => (OW.out.kept G5.out (ob_ne OW.out.lt GB.out)).alloc X
        have NW : Hid (∀ j u, (ceC ee)[j]? = some u → (w5.alloc (.cells (ceC ee).toArray 40)).cell? ((⟨w5.heap.size, 0, none⟩ : Addr).add j) = some u) := fun j u h => mk_cells w5 _ _ j u h
        have BZ : Hid (∀ X : Obj, w1.heap.size ≤ (w5.alloc X).heap.size) := fun X => by have := GI.out.size; have := G5.out.size; simp; omega
        have I : Hid _ := infRlC
        go_wp2_with (at_builtin; obtain ⟨i, z, hi, hz, hs', hy, hzc⟩ := I.out; refine wpList_append_own_at _ rfl _ _ 22 rfl w1.heap.size 40 i z 11 96 Tryz.underlying22 hi hz hs' hy hzc (by decide) u5 k vss.flatten rfl (OW5.out _) ⟨w5.heap.size, 0, none⟩ 1 1 (ceC ee) rfl rfl NW.out (by intro u hu; simp at hu; rcases hu with h | h | h | h | h | h | h | h | h | h | h <;> subst h <;> rfl) (by have := LE.out; simp [maxLen]; omega) (by have := LE.out; omega) (BZ.out _) ?_; intro v' w7 q1 q2 q3 q4; have Q1 : Hid _ := q1; have Q2 : Hid _ := q2; have Q4 : Hid _ := q4; clear q1 q2 q3 q4 hi hz hs' hy hzc)
        rw [ew]
        have B5 : wr.grownBy (w5.alloc (.cells (ceC ee).toArray 40)) (some g) := gb_trans G5.out (gb_alloc _ _ _)
        have hob : ∀ i, u5.ownBlock = some i → w1.heap.size ≤ i := fun i hi => (OW.out.lt i hi).1
        refine ⟨⟨k + 1, t2, rfl, NX.out, mk_stepG (keptI _) GB.out EHS.out HVN.out EV.out OW.out.lt _ _ GE.out rfl GI.out.size B5 rfl Q2.out Q1.out Q4.out, ?_, ?_⟩, ?_⟩
        · exact (R5.out.al _).grown Q2.out (fun q => by have := hob _ q; have := GB.out; omega) (fun q => by have := hob _ q; have := R1.out.kl; omega)
        · exact gb_own (gb_trans GI.out B5) Q2.out hob
        · have := LT.out
          show N.toNat - ((k : Int) + 1).toNat < N.toNat - (k : Int).toNat
          omega
      · have HB : Hid (Calls Tryz.prog 74 #[.pointer (some ⟨g, 0, none⟩)] wr fun e w' => e = .returned (.bool true) ∧ w' = wr) := by
          have q := failedX g _ _ _ _ _ _ wr RI.out.at_
          rw [show (t.y != 0) = true by simp [hy]] at q
          exact q
        obtain ⟨⟨y, c2, ev, hy2⟩, hr2, hg2⟩ := fin.out (Or.inr hy)
        subst ev
        have Y2 : Hid _ := hy2
        have R2 : Hid _ := hr2
        have G2 : Hid _ := hg2
        clear hy hy2 hr2 hg2 fin LI MI RI GI
        go_wp2_with (go_at_call 74; refine (HB.out).mono ?_)
        try (first | (rintro e w2 ⟨he, hw⟩; have he' := he; subst he; rw [hw]; clear hw w2) | (rintro e w2 he hw; subst he; rw [hw]; clear hw w2))
        go_wp2
        go_ret
        first | exact ⟨⟨y, ⟨c2, rfl⟩, Y2.out⟩, R2.out, G2.out⟩ | exact ⟨⟨y, c2, rfl, Y2.out⟩, R2.out, G2.out⟩
    · obtain ⟨⟨y, c2, ev, hy2⟩, hr2, hg2⟩ := fin.out (Or.inl (by have := LI.out.1; omega))
      subst ev
      have Y2 : Hid _ := hy2
      have R2 : Hid _ := hr2
      have G2 : Hid _ := hg2
      clear hy2 hr2 hg2 fin LI MI RI GI
      go_wp2
      go_ret
      first | exact ⟨⟨y, ⟨c2, rfl⟩, Y2.out⟩, R2.out, G2.out⟩ | exact ⟨⟨y, c2, rfl, Y2.out⟩, R2.out, G2.out⟩
end Go.Proofs.YtdcjngakmkgbmaaGreat.Ty
