/- What StdlibNames' function answers; no statement of the seat is proved here. -/
import Derived.Test.YtkanhbokdjppoaaGreatDoorNmL
import Derived.Test.YtkanhbokdjppoaaGreatDoorNmK
import Derived.Test.YtkanhbokdjppoaaGreatDoorNmF
namespace Go.Proofs.YtkanhbokdjppoaaGreatDoor
set_option linter.unusedVariables false
open Go.RowKit
/-- A row that may be written. -/
def BoxS (w : World) (g n : Nat) : Prop := ∃ A : Array Value, w.heap[g]? = some (.cells A 9 (0, 0)) ∧ n ≤ A.size
theorem RowS.box {w : World} {g n : Nat} {p : Nat → ByteArray} (h : RowS w g n p) : BoxS w g n := by
  obtain ⟨A, a, b, _⟩ := h; exact ⟨A, a, b⟩
theorem BoxS.cell {w : World} {g n : Nat} (h : BoxS w g n) (i : Nat) (hi : i < n) : ∃ v, w.cell? ⟨g, i, none⟩ = some v := by
  obtain ⟨A, h1, h2⟩ := h
  refine ⟨A[i]'(by omega), ?_⟩
  simp only [World.cell?, h1]
  simp [Array.getElem?_eq_getElem (show i < A.size by omega)]
theorem BoxS.set {w : World} {g n : Nat} (h : BoxS w g n) (i : Nat) (v : Value) : BoxS (w.setCell ⟨g, i, none⟩ v) g n := by
  obtain ⟨A, h1, h2⟩ := h
  exact ⟨_, heap_setCell_same w g i A _ v h1, by simpa using h2⟩
theorem RowS.set {w : World} {g g' n : Nat} {p : Nat → ByteArray} (h : RowS w g n p) (i : Nat) (v : Value) (ne : g ≠ g') : RowS (w.setCell ⟨g', i, none⟩ v) g n p := h.same (heap_setCell_other w _ _ _ ne)
/-- Three rows of names, the first of them to be written over. -/
structure Q3 (w W : World) (g1 g2 g3 n : Nat) (p : Nat → ByteArray) : Prop where
  b : Below w.heap.size w W
  l1 : w.heap.size ≤ g1
  bx : BoxS W g1 n
  n12 : g2 ≠ g1
  n13 : g3 ≠ g1
  r2 : RowS W g2 n p
  r3 : RowS W g3 n p
theorem BoxS.lt {w : World} {g n : Nat} (h : BoxS w g n) : g < w.heap.size := by
  obtain ⟨A, h1, _⟩ := h
  rcases Nat.lt_or_ge g w.heap.size with q | q
  · exact q
  · rw [Array.getElem?_eq_none q] at h1; cases h1
theorem Q3.next {w W W' : World} {g1 g2 g3 n : Nat} {p : Nat → ByteArray} (h : Q3 w W g1 g2 g3 n p) (hb : Below W.heap.size W W') : Q3 w W' g1 g2 g3 n p := by
  obtain ⟨b, l1, bx, n12, n13, r2, r3⟩ := h
  have z := bx.lt
  obtain ⟨A, a1, a2⟩ := bx
  exact ⟨b.trans (hb.mono b.size), l1, ⟨A, (hb.block g1 z).trans a1, a2⟩, n12, n13, r2.below hb r2.lt, r3.below hb r3.lt⟩
theorem Q3.set {w W : World} {g1 g2 g3 n : Nat} {p : Nat → ByteArray} (h : Q3 w W g1 g2 g3 n p) (i : Nat) (v : Value) : Q3 w (W.setCell ⟨g1, i, none⟩ v) g1 g2 g3 n p :=
  ⟨h.b.setCell h.l1 v, h.l1, h.bx.set i v, h.n12, h.n13, h.r2.set i v h.n12, h.r3.set i v h.n13⟩
section
variable (z n : Int) (s : ByteArray) (w : World)
set_option maxRecDepth 20000 in
set_option maxHeartbeats 4000000 in
theorem names_row (m : Nat) (p : Nat → ByteArray) (h0 : 0 < m) (hm : m ≤ 100) (hk : KW w) (ht : Asc w) (hM : MxL w)
    (hP : ∀ w, KW w → Asc w → MxL w → Calls Tryz.prog 11 #[.string s, .int .i64 n] w (PmR w m p))
    (hD : ∀ w, Calls Tryz.prog 12 #[.string s, .int .i64 n] w (PmR w m p)) :
    Calls Tryz.prog 4 #[.int .i64 z, .string s, .int .i64 n] w fun e w' => e = .returned (.bool true) ∧ Below w.heap.size w w' := by
  have P : Hid (∀ W, Below w.heap.size w W → Calls Tryz.prog 11 #[.string s, .int .i64 n] W (PmR W m p)) := fun W hb => hP W (hk.next hb) (ht.below hb) (hM.below hb)
  have D : Hid _ := hD
  have NA : Hid (∀ W, Below w.heap.size w W → Calls Tryz.prog 13 #[.int .i64 z] W fun e w' => e = .returned (.string (fuA z).nm) ∧ Below W.heap.size W w') := fun W hb => Name_of z W (hk.next hb)
  have NR : Hid _ := NameR_of z
  clear hk ht hM hP hD
  generalize (fuA z).nm = nm at *
  go_enter Tryz.func4, Tryz.ntmps4
  go_wp2_with (first
    | (go_at_call 11; refine (P.out w (Below.refl _ _)).mono ?_; rintro e w1 ⟨g1, c1, rfl, hg1, hr1, hb1⟩; have B1 : Hid (Below w.heap.size w w1) := hb1; have L1 : Hid (w.heap.size ≤ g1) := hg1; have R1 : Hid (RowS w1 g1 m p) := hr1; clear hg1 hr1 hb1)
    | (go_at_call 11; refine (P.out w1 B1.out).mono ?_; rintro e w2 ⟨g2, c2, rfl, hg2, hr2, hb2⟩; have B2 : Hid (Below w1.heap.size w1 w2) := hb2; have L2 : Hid (w1.heap.size ≤ g2) := hg2; have R2 : Hid (RowS w2 g2 m p) := hr2; clear hg2 hr2 hb2)
    | (go_at_call 12; refine (D.out w2).mono ?_; rintro e w3 ⟨g3, c3, rfl, hg3, hr3, hb3⟩; have B3 : Hid (Below w2.heap.size w2 w3) := hb3; have L3 : Hid (w2.heap.size ≤ g3) := hg3; have R3 : Hid (RowS w3 g3 m p) := hr3; clear hg3 hr3 hb3))
  have Q : Hid (Q3 w w3 g1 g2 g3 m p) := by
    have z1 := B1.out.size
    have z2 := B2.out.size
    have z3 := B3.out.size
    have y1 := R1.out.lt
    have y2 := R2.out.lt
    have x1 := L1.out
    have x2 := L2.out
    have x3 := L3.out
    exact ⟨B1.out.trans ((B2.out.trans (B3.out.mono z2)).mono z1), x1, ((R1.out.below B2.out y1).below B3.out (by omega)).box, by omega, by omega, R2.out.below B3.out y2, R3.out⟩
  have RA : Hid (RowS w3 g1 m p) := (R1.out.below B2.out R1.out.lt).below B3.out (Nat.lt_of_lt_of_le R1.out.lt B2.out.size)
  clear R1 R2 R3 L1 L2 L3 B1 B2 B3
  have nq : ∀ w, (binOp .neq 9 (.string nm) (.string nm)).run Tryz.prog w = .ok (.bool false) w := fun w => by simp [go_sem]
  go_wp2_with (first
    | (go_at_call 13; refine (NA.out w3 Q.out.b).mono ?_; rintro e w4 ⟨rfl, hb⟩; have Q4 : Hid (Q3 w w4 g1 g2 g3 m p) := Q.out.next hb; have RB : Hid (RowS w4 g1 m p) := RA.out.below hb RA.out.lt; clear hb)
    | (go_at_call 14; refine (NR.out w4).mono ?_; rintro e w5 ⟨rfl, hb⟩; have Q5 : Hid (Q3 w w5 g1 g2 g3 m p) := Q4.out.next hb; have RC : Hid (RowS w5 g1 m p) := RB.out.below hb RB.out.lt; clear hb)
    | (go_at_call 15; refine (Count_of _).mono ?_; rintro e wC ⟨rfl, hC⟩; subst hC)
    | (go_at_call 16; refine (eq_rows g1 g3 m c1 c3 p _ RC.out Q5.out.r3 (by omega)).mono ?_; rintro e w6 ⟨rfl, hb⟩; have Q6 : Hid (Q3 w w6 g1 g2 g3 m p) := Q5.out.next hb; clear hb))
  clear Q Q4 Q5 RA RB RC nq NA NR D
  go_loopw [37] (fun i wr => ∃ k : Nat, k ≤ m ∧ i = .int .i64 k ∧ Q3 w wr g1 g2 g3 m p) (fun i _ => m - (intOf i).toNat)
  case atStart => exact ⟨0, Nat.zero_le _, rfl, Q6.out⟩
  case round =>
    obtain ⟨k, hk, rfl, hq⟩ := hrel
    have Q7 : Hid (Q3 w wr g1 g2 g3 m p) := hq
    by_cases hlt : k < m
    · obtain ⟨v, hv⟩ := hq.bx.cell k hlt
      have hf : wr.frozen? ⟨g1, k, none⟩ = false := by
        obtain ⟨A, hA, hs⟩ := hq.bx
        simp [World.frozen?, hA]
      have kl : (k : Int) < m := by omega
      have k16 : (k : Int) ≤ 100 := by omega
      clear hq
      go_wp2
      exact ⟨⟨k + 1, by omega, by go_num, Q7.out.set k _⟩, by simp [intOf]; omega⟩
    · obtain rfl : k = m := by omega
      have kl : ¬ (k : Int) < k := by omega
      clear hq
      go_wp2_with (first
        | (go_at_call 16; refine (eq_rows g4 g3 k c4 c3 p _ R4.out Q9.out.r3 (by omega)).mono ?_; rintro e w9 ⟨rfl, hb⟩; have QA : Hid (Q3 w w9 g1 g2 g3 k p) := Q9.out.next hb; clear hb)
        | (go_at_call 16; refine (eq_rows g2 g3 k c2 c3 p _ Q7.out.r2 Q7.out.r3 (by omega)).mono ?_; rintro e w7 ⟨rfl, hb⟩; have Q8 : Hid (Q3 w w7 g1 g2 g3 k p) := Q7.out.next hb; clear hb)
        | (go_at_call 11; refine (P.out w7 Q8.out.b).mono ?_; rintro e w8 ⟨g4, c4, rfl, hg4, hr4, hb4⟩; have Q9 : Hid (Q3 w w8 g1 g2 g3 k p) := Q8.out.next hb4; have R4 : Hid (RowS w8 g4 k p) := hr4; clear hg4 hr4 hb4))
      go_ret
      exact ⟨rfl, QA.out.b⟩
set_option maxRecDepth 20000 in
set_option maxHeartbeats 4000000 in
theorem names_nil (hk : KW w) (ht : Asc w) (hM : MxL w)
    (hP : ∀ w, KW w → Asc w → MxL w → Calls Tryz.prog 11 #[.string s, .int .i64 n] w fun e w' => e = .returned (.slice none 0 0) ∧ Below w.heap.size w w')
    (hD : ∀ w, Calls Tryz.prog 12 #[.string s, .int .i64 n] w fun e w' => e = .returned (.slice none 0 0) ∧ Below w.heap.size w w') :
    Calls Tryz.prog 4 #[.int .i64 z, .string s, .int .i64 n] w fun e w' => e = .returned (.bool true) ∧ Below w.heap.size w w' := by
  have P : Hid (∀ W, Below w.heap.size w W → Calls Tryz.prog 11 #[.string s, .int .i64 n] W fun e w' => e = .returned (.slice none 0 0) ∧ Below W.heap.size W w') := fun W hb => hP W (hk.next hb) (ht.below hb) (hM.below hb)
  have D : Hid _ := hD
  have NA : Hid (∀ W, Below w.heap.size w W → Calls Tryz.prog 13 #[.int .i64 z] W fun e w' => e = .returned (.string (fuA z).nm) ∧ Below W.heap.size W w') := fun W hb => Name_of z W (hk.next hb)
  have NR : Hid _ := NameR_of z
  clear hk ht hM hP hD
  generalize (fuA z).nm = nm at *
  go_enter Tryz.func4, Tryz.ntmps4
  go_wp2_with (first
    | (go_at_call 11; refine (P.out w (Below.refl _ _)).mono ?_; rintro e w1 ⟨rfl, hb⟩; have B1 : Hid (Below w.heap.size w w1) := hb; clear hb)
    | (go_at_call 11; refine (P.out w1 B1.out).mono ?_; rintro e w2 ⟨rfl, hb⟩; have B2 : Hid (Below w.heap.size w w2) := B1.out.trans (hb.mono B1.out.size); clear hb)
    | (go_at_call 12; refine (D.out w2).mono ?_; rintro e w3 ⟨rfl, hb⟩; have B3 : Hid (Below w.heap.size w w3) := B2.out.trans (hb.mono B2.out.size); clear hb))
  clear B1 B2 D
  have nq : ∀ w, (binOp .neq 9 (.string nm) (.string nm)).run Tryz.prog w = .ok (.bool false) w := fun w => by simp [go_sem]
  go_wp2_with (first
    | (go_at_call 13; refine (NA.out w3 B3.out).mono ?_; rintro e w4 ⟨rfl, hb⟩; have B4 : Hid (Below w.heap.size w w4) := B3.out.trans (hb.mono B3.out.size); clear hb)
    | (go_at_call 14; refine (NR.out w4).mono ?_; rintro e w5 ⟨rfl, hb⟩; have B5 : Hid (Below w.heap.size w w5) := B4.out.trans (hb.mono B4.out.size); clear hb)
    | (go_at_call 15; refine (Count_of _).mono ?_; rintro e wC ⟨rfl, hC⟩; subst hC)
    | (go_at_call 16; refine (eq_nil _).mono ?_; rintro e w6 ⟨rfl, hb⟩; have B6 : Hid (Below w.heap.size w w6) := B5.out.trans (hb.mono B5.out.size); clear hb))
  clear B3 B4 B5 nq NA NR
  go_loopw [37] (fun i wr => i = .int .i64 0 ∧ Below w.heap.size w wr) (fun i _ => 0)
  case atStart => exact ⟨rfl, B6.out⟩
  case round =>
    obtain ⟨rfl, hb⟩ := hrel
    have B7 : Hid (Below w.heap.size w wr) := hb
    clear hb B6
    go_wp2_with (first
      | (go_at_call 16; refine (eq_nil wr).mono ?_; rintro e w7 ⟨rfl, hb⟩; have B8 : Hid (Below w.heap.size w w7) := B7.out.trans (hb.mono B7.out.size); clear hb)
      | (go_at_call 11; refine (P.out w7 B8.out).mono ?_; rintro e w8 ⟨rfl, hb⟩; have B9 : Hid (Below w.heap.size w w8) := B8.out.trans (hb.mono B8.out.size); clear hb)
      | (go_at_call 16; refine (eq_nil w8).mono ?_; rintro e w9 ⟨rfl, hb⟩; have BA : Hid (Below w.heap.size w w9) := B9.out.trans (hb.mono B9.out.size); clear hb))
    go_ret
    exact ⟨rfl, BA.out⟩
theorem names_walk (hs : s.size < 4294967281) (hk : KW w) (ht : Asc w) (hM : MxL w) :
    Calls Tryz.prog 4 #[.int .i64 z, .string s, .int .i64 n] w fun e w' => e = .returned (.bool true) ∧ Below w.heap.size w w' := by
  obtain ⟨l, x, hl, hP, hD⟩ := prm s n hs
  rcases hc : ctB x l.length n with _ | _
  · refine names_nil z n s w hk ht hM (fun w a b c => (hP w a b c).mono ?_) (fun w => (hD w).mono ?_)
    all_goals
      intro e w' h
      rcases h with ⟨h, _⟩ | ⟨_, h⟩
      · rw [hc] at h; cases h
      · exact h
  · have cz : 0 < n ∧ n ≤ 16 := by
      have h := hc
      simp [ctB] at h
      omega
    refine names_row z n s w n.toNat (pnF l.length x (nmsF l)) (by omega) (by omega) hk ht hM (fun w a b c => (hP w a b c).mono ?_) (fun w => (hD w).mono ?_)
    all_goals
      intro e w' h
      rcases h with ⟨_, h⟩ | ⟨h, _⟩
      · exact h
      · rw [hc] at h; cases h
end
end Go.Proofs.YtkanhbokdjppoaaGreatDoor
