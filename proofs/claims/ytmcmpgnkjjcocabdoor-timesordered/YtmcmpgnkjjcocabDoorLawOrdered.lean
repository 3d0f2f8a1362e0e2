/- TimesOrdered is proved: for every two triples of numbers the statement's function returns true, and its arguments read as they did; the listed tables hold what the programs' texts lay in them (tied). -/
import Derived.Test.YtmcmpgnkjjcocabDoorWeekV
import Derived.Test.YtmcmpgnkjjcocabDoorLaidU
import Derived.Test.YtmcmpgnkjjcocabDoorTie
import Derived.Test.YtmcmpgnkjjcocabDoorCards
import Derived.ShutString
import Derived.ChangeOld
import Derived.Below
import Derived.SevenTiedAt
import Derived.Stop.Joined
import Derived.Laws.IdiomArrays
import Derived.Laws.StructEq
import Derived.Lib.SmallJoins
namespace Go.Proofs.YtmcmpgnkjjcocabDoor.LawTimesOrdered
set_option linter.unusedVariables false
open Go.ChangeShapes Go.WideShapes Go.ChangeAt Go.RowKit Go.Joins
theorem own : ownKnob Tryd.prog.godebug = none := by kernel_rfl
theorem laidOut : laidOutB Tryd.prog = true := by kernel_rfl
theorem of_laid {W : World} (h : laidMetH Tryd.prog Rows.timesOrderedRow.laid W) : Tab W ∧ UT W := by
  rw [MakeChecks.laidMetH_plain _ _ _ (by kernel_rfl)] at h
  refine ⟨tab_of ?_, ut_of ?_⟩
  · exact h.filter fun x => x.1 == "relay/times.monthDays"
  · exact h.filter fun x => x.1 == "relay/times.units"
theorem at_of {y m d : Int} (h : dateB y m d = true) : Cal.At (dayN y m d) (y - 1970).toNat (m - 1).toNat (d - 1) := by
  have hd : d ≤ Cal.dim y m := by unfold dateB at h; simp at h; omega
  obtain ⟨a, b, c, e, f, g⟩ := date_yes h
  have e1 : (1970 + ((y - 1970).toNat : Int)) = y := by omega
  have e2 : (((m - 1).toNat : Int) + 1) = m := by omega
  exact ⟨by omega, by omega, by rw [e1, e2]; omega, by unfold dayN; rw [e1]; omega⟩
theorem lt_of {n n' : Int} {k m k' m' : Nat} {d d' : Int} (h : Cal.At n k m d) (h' : Cal.At n' k' m' d') (l : k < k' ∨ k = k' ∧ (m < m' ∨ m = m' ∧ d < d')) : n < n' := by
  have a := h.year
  have b := h'.year
  have s := h.sum
  have s' := h'.sum
  have i := h.hi
  have j := h'.lo
  rcases l with l | ⟨rfl, l | ⟨rfl, l⟩⟩
  · have := Cal.ycum_mono (k + 1) k' l; omega
  · have := Cal.mcum_mono (1970 + k) (m + 1) m' l
    have e : Cal.mcum (1970 + k) (m + 1) = Cal.mcum (1970 + k) m + Cal.dim (1970 + k) (m + 1) := rfl
    omega
  · omega
theorem day_lt {y m d y' m' d' : Int} (h : dateB y m d = true) (h' : dateB y' m' d' = true) (l : y < y' ∨ y = y' ∧ (m < m' ∨ m = m' ∧ d < d')) : dayN y m d < dayN y' m' d' := by
  have a := date_yes h
  have b := date_yes h'
  exact lt_of (at_of h) (at_of h') (by omega)
theorem eq3 (y m d y' m' d' : Int) (w : World) : (Op.equalIn 10000 38 (.agg #[.int .i64 y, .int .i64 m, .int .i64 d]) (.agg #[.int .i64 y', .int .i64 m', .int .i64 d'])).run Tryd.prog w = .ok (y == y' && (m == m' && d == d')) w := by
  have hr : List.range' 0 3 = [0, 1, 2] := rfl
  have q := fun (a b : Int) (w : World) => run_equalIn_int (P := Tryd.prog) w 9998 3 .i64 .i64 a b Tryd.underlying3
  unfold Op.equalIn
  simp [go_sem, hr, List.forIn_cons, q]
  cases a : (y == y') <;> cases b : (m == m') <;> cases c : (d == d') <;> simp_all
abbrev A3 (y m d : Int) : Value := .agg #[.int .i64 y, .int .i64 m, .int .i64 d]
section
variable (y m d y' m' d' : Int) (w : World)
theorem Days_t (hT : Tab w) (h : dateB y m d = true) {n : Int} (e : dayN y m d = n) : Calls Tryd.prog 11 #[.int .i64 y, .int .i64 m, .int .i64 d] w fun e w' => e = .returned (.tuple #[.int .i64 n, .bool true]) ∧ w' = w := by
  have := Days_of y m d w hT
  rwa [← DV_t h e.symm] at this
theorem Days_f (hT : Tab w) (h : dateB y m d = false) : Calls Tryd.prog 11 #[.int .i64 y, .int .i64 m, .int .i64 d] w fun e w' => e = .returned (.tuple #[.int .i64 0, .bool false]) ∧ w' = w := by
  have := Days_of y m d w hT
  rwa [← DV_f h] at this
theorem tab_below {w w1 : World} {B : Nat} (h : Tab w) (hb : Below B w w1) (hB : 1 < B) : Tab w1 := fun m hm => (hb.cell (p := ⟨1, m, none⟩) hB).trans (h m hm)
theorem tab_pos {w : World} (h : Tab w) : 1 < w.heap.size := World.block_lt_of_cell? w ⟨1, 0, none⟩ (h 0 (by omega))
set_option maxRecDepth 100000 in
set_option maxHeartbeats 1000000 in
theorem walk_y1 {n n' : Int} (h : dateB y m d = true) (h' : dateB y' m' d' = true) (e : dayN y m d = n) (e' : dayN y' m' d' = n') (l : n < n') (c : y < y') (hT : Tab w) (u : UT w) :
    Calls Tryd.prog 6 #[A3 y m d, A3 y' m' d'] w fun e w' => e = .returned (.bool true) ∧ Below w.heap.size w w' := by
  have hB : Below w.heap.size w ((w.alloc (.cells #[.int .i64 y, .int .i64 m, .int .i64 d] 38)).alloc (.cells #[.int .i64 y', .int .i64 m', .int .i64 d'] 38)) := ((Below.refl _ _).alloc (Nat.le_refl _) _).alloc (by simp) _
  have HT : Hid _ := tab_below hT hB (tab_pos hT)
  have U : Hid _ := u.below hB u.pos
  have HB : Hid _ := hB
  have q := eq3 y m d y' m' d'
  have D1 : Hid _ := fun w hT => Days_t y m d w hT h e
  have D2 : Hid _ := fun w hT => Days_t y' m' d' w hT h' e'
  clear hT u hB
  clear h h' e e'
  have c2 : (y == y') = false := by simp; omega
  have l2 : (n == n') = false := by simp; omega
  go_enter Tryd.func6, Tryd.ntmps6
  go_wp2_with fail
  refine (D1.out _ HT.out).mono ?_
  rintro e w1 ⟨rfl, rfl⟩
  go_wp2_with fail
  refine (D2.out _ HT.out).mono ?_
  rintro e w2 ⟨rfl, rfl⟩
  go_wp2_with (go_at_call 10; refine (awake_of _ U.out HT.out).mono ?_; rintro e w3 ⟨rfl, hb⟩)
  go_ret
  exact ⟨rfl, HB.out.trans (hb.mono (by simp; omega))⟩
set_option maxRecDepth 100000 in
set_option maxHeartbeats 1000000 in
theorem walk_y2 {n n' : Int} (h : dateB y m d = true) (h' : dateB y' m' d' = true) (e : dayN y m d = n) (e' : dayN y' m' d' = n') (l : n' < n) (c : y' < y) (hT : Tab w) (u : UT w) :
    Calls Tryd.prog 6 #[A3 y m d, A3 y' m' d'] w fun e w' => e = .returned (.bool true) ∧ Below w.heap.size w w' := by
  have hB : Below w.heap.size w ((w.alloc (.cells #[.int .i64 y, .int .i64 m, .int .i64 d] 38)).alloc (.cells #[.int .i64 y', .int .i64 m', .int .i64 d'] 38)) := ((Below.refl _ _).alloc (Nat.le_refl _) _).alloc (by simp) _
  have HT : Hid _ := tab_below hT hB (tab_pos hT)
  have U : Hid _ := u.below hB u.pos
  have HB : Hid _ := hB
  have q := eq3 y m d y' m' d'
  have D1 : Hid _ := fun w hT => Days_t y m d w hT h e
  have D2 : Hid _ := fun w hT => Days_t y' m' d' w hT h' e'
  clear hT u hB
  clear h h' e e'
  have c2 : (y == y') = false := by simp; omega
  have l2 : (n == n') = false := by simp; omega
  go_enter Tryd.func6, Tryd.ntmps6
  go_wp2_with fail
  refine (D1.out _ HT.out).mono ?_
  rintro e w1 ⟨rfl, rfl⟩
  go_wp2_with fail
  refine (D2.out _ HT.out).mono ?_
  rintro e w2 ⟨rfl, rfl⟩
  go_wp2_with (go_at_call 10; refine (awake_of _ U.out HT.out).mono ?_; rintro e w3 ⟨rfl, hb⟩)
  go_ret
  exact ⟨rfl, HB.out.trans (hb.mono (by simp; omega))⟩
set_option maxRecDepth 100000 in
set_option maxHeartbeats 1000000 in
theorem walk_m1 {n n' : Int} (h : dateB y m d = true) (h' : dateB y m' d' = true) (e : dayN y m d = n) (e' : dayN y m' d' = n') (l : n < n') (c : m < m') (hT : Tab w) (u : UT w) :
    Calls Tryd.prog 6 #[A3 y m d, A3 y m' d'] w fun e w' => e = .returned (.bool true) ∧ Below w.heap.size w w' := by
  have hB : Below w.heap.size w ((w.alloc (.cells #[.int .i64 y, .int .i64 m, .int .i64 d] 38)).alloc (.cells #[.int .i64 y, .int .i64 m', .int .i64 d'] 38)) := ((Below.refl _ _).alloc (Nat.le_refl _) _).alloc (by simp) _
  have HT : Hid _ := tab_below hT hB (tab_pos hT)
  have U : Hid _ := u.below hB u.pos
  have HB : Hid _ := hB
  have q := eq3 y m d y m' d'
  have D1 : Hid _ := fun w hT => Days_t y m d w hT h e
  have D2 : Hid _ := fun w hT => Days_t y m' d' w hT h' e'
  clear hT u hB
  clear h h' e e'
  have c2 : (m == m') = false := by simp; omega
  have l2 : (n == n') = false := by simp; omega
  go_enter Tryd.func6, Tryd.ntmps6
  go_wp2_with fail
  refine (D1.out _ HT.out).mono ?_
  rintro e w1 ⟨rfl, rfl⟩
  go_wp2_with fail
  refine (D2.out _ HT.out).mono ?_
  rintro e w2 ⟨rfl, rfl⟩
  go_wp2_with (go_at_call 10; refine (awake_of _ U.out HT.out).mono ?_; rintro e w3 ⟨rfl, hb⟩)
  go_ret
  exact ⟨rfl, HB.out.trans (hb.mono (by simp; omega))⟩
set_option maxRecDepth 100000 in
set_option maxHeartbeats 1000000 in
theorem walk_m2 {n n' : Int} (h : dateB y m d = true) (h' : dateB y m' d' = true) (e : dayN y m d = n) (e' : dayN y m' d' = n') (l : n' < n) (c : m' < m) (hT : Tab w) (u : UT w) :
    Calls Tryd.prog 6 #[A3 y m d, A3 y m' d'] w fun e w' => e = .returned (.bool true) ∧ Below w.heap.size w w' := by
  have hB : Below w.heap.size w ((w.alloc (.cells #[.int .i64 y, .int .i64 m, .int .i64 d] 38)).alloc (.cells #[.int .i64 y, .int .i64 m', .int .i64 d'] 38)) := ((Below.refl _ _).alloc (Nat.le_refl _) _).alloc (by simp) _
  have HT : Hid _ := tab_below hT hB (tab_pos hT)
  have U : Hid _ := u.below hB u.pos
  have HB : Hid _ := hB
  have q := eq3 y m d y m' d'
  have D1 : Hid _ := fun w hT => Days_t y m d w hT h e
  have D2 : Hid _ := fun w hT => Days_t y m' d' w hT h' e'
  clear hT u hB
  clear h h' e e'
  have c2 : (m == m') = false := by simp; omega
  have l2 : (n == n') = false := by simp; omega
  go_enter Tryd.func6, Tryd.ntmps6
  go_wp2_with fail
  refine (D1.out _ HT.out).mono ?_
  rintro e w1 ⟨rfl, rfl⟩
  go_wp2_with fail
  refine (D2.out _ HT.out).mono ?_
  rintro e w2 ⟨rfl, rfl⟩
  go_wp2_with (go_at_call 10; refine (awake_of _ U.out HT.out).mono ?_; rintro e w3 ⟨rfl, hb⟩)
  go_ret
  exact ⟨rfl, HB.out.trans (hb.mono (by simp; omega))⟩
set_option maxRecDepth 100000 in
set_option maxHeartbeats 1000000 in
theorem walk_d1 {n n' : Int} (h : dateB y m d = true) (h' : dateB y m d' = true) (e : dayN y m d = n) (e' : dayN y m d' = n') (l : n < n') (c : d < d') (hT : Tab w) (u : UT w) :
    Calls Tryd.prog 6 #[A3 y m d, A3 y m d'] w fun e w' => e = .returned (.bool true) ∧ Below w.heap.size w w' := by
  have hB : Below w.heap.size w ((w.alloc (.cells #[.int .i64 y, .int .i64 m, .int .i64 d] 38)).alloc (.cells #[.int .i64 y, .int .i64 m, .int .i64 d'] 38)) := ((Below.refl _ _).alloc (Nat.le_refl _) _).alloc (by simp) _
  have HT : Hid _ := tab_below hT hB (tab_pos hT)
  have U : Hid _ := u.below hB u.pos
  have HB : Hid _ := hB
  have q := eq3 y m d y m d'
  have D1 : Hid _ := fun w hT => Days_t y m d w hT h e
  have D2 : Hid _ := fun w hT => Days_t y m d' w hT h' e'
  clear hT u hB
  clear h h' e e'
  have c2 : (d == d') = false := by simp; omega
  have l2 : (n == n') = false := by simp; omega
  go_enter Tryd.func6, Tryd.ntmps6
  go_wp2_with fail
  refine (D1.out _ HT.out).mono ?_
  rintro e w1 ⟨rfl, rfl⟩
  go_wp2_with fail
  refine (D2.out _ HT.out).mono ?_
  rintro e w2 ⟨rfl, rfl⟩
  go_wp2_with (go_at_call 10; refine (awake_of _ U.out HT.out).mono ?_; rintro e w3 ⟨rfl, hb⟩)
  go_ret
  exact ⟨rfl, HB.out.trans (hb.mono (by simp; omega))⟩
set_option maxRecDepth 100000 in
set_option maxHeartbeats 1000000 in
theorem walk_d2 {n n' : Int} (h : dateB y m d = true) (h' : dateB y m d' = true) (e : dayN y m d = n) (e' : dayN y m d' = n') (l : n' < n) (c : d' < d) (hT : Tab w) (u : UT w) :
    Calls Tryd.prog 6 #[A3 y m d, A3 y m d'] w fun e w' => e = .returned (.bool true) ∧ Below w.heap.size w w' := by
  have hB : Below w.heap.size w ((w.alloc (.cells #[.int .i64 y, .int .i64 m, .int .i64 d] 38)).alloc (.cells #[.int .i64 y, .int .i64 m, .int .i64 d'] 38)) := ((Below.refl _ _).alloc (Nat.le_refl _) _).alloc (by simp) _
  have HT : Hid _ := tab_below hT hB (tab_pos hT)
  have U : Hid _ := u.below hB u.pos
  have HB : Hid _ := hB
  have q := eq3 y m d y m d'
  have D1 : Hid _ := fun w hT => Days_t y m d w hT h e
  have D2 : Hid _ := fun w hT => Days_t y m d' w hT h' e'
  clear hT u hB
  clear h h' e e'
  have c2 : (d == d') = false := by simp; omega
  have l2 : (n == n') = false := by simp; omega
  go_enter Tryd.func6, Tryd.ntmps6
  go_wp2_with fail
  refine (D1.out _ HT.out).mono ?_
  rintro e w1 ⟨rfl, rfl⟩
  go_wp2_with fail
  refine (D2.out _ HT.out).mono ?_
  rintro e w2 ⟨rfl, rfl⟩
  go_wp2_with (go_at_call 10; refine (awake_of _ U.out HT.out).mono ?_; rintro e w3 ⟨rfl, hb⟩)
  go_ret
  exact ⟨rfl, HB.out.trans (hb.mono (by simp; omega))⟩
set_option maxRecDepth 100000 in
set_option maxHeartbeats 1000000 in
theorem walk_e {n : Int} (h : dateB y m d = true) (e : dayN y m d = n)  (hT : Tab w) (u : UT w) :
    Calls Tryd.prog 6 #[A3 y m d, A3 y m d] w fun e w' => e = .returned (.bool true) ∧ Below w.heap.size w w' := by
  have hB : Below w.heap.size w ((w.alloc (.cells #[.int .i64 y, .int .i64 m, .int .i64 d] 38)).alloc (.cells #[.int .i64 y, .int .i64 m, .int .i64 d] 38)) := ((Below.refl _ _).alloc (Nat.le_refl _) _).alloc (by simp) _
  have HT : Hid _ := tab_below hT hB (tab_pos hT)
  have U : Hid _ := u.below hB u.pos
  have HB : Hid _ := hB
  have q := eq3 y m d y m d
  have D1 : Hid _ := fun w hT => Days_t y m d w hT h e
  have D2 : Hid _ := fun w hT => Days_t y m d w hT h e
  clear hT u hB
  clear h e
  go_enter Tryd.func6, Tryd.ntmps6
  go_wp2_with fail
  refine (D1.out _ HT.out).mono ?_
  rintro e w1 ⟨rfl, rfl⟩
  go_wp2_with fail
  refine (D2.out _ HT.out).mono ?_
  rintro e w2 ⟨rfl, rfl⟩
  go_wp2_with (go_at_call 10; refine (awake_of _ U.out HT.out).mono ?_; rintro e w3 ⟨rfl, hb⟩)
  go_ret
  exact ⟨rfl, HB.out.trans (hb.mono (by simp; omega))⟩
set_option maxRecDepth 100000 in
set_option maxHeartbeats 1000000 in
theorem walk_f1 (h : dateB y m d = false) (r : ∃ b : Bool, dateB y' m' d' = b)  (hT : Tab w) (u : UT w) :
    Calls Tryd.prog 6 #[A3 y m d, A3 y' m' d'] w fun e w' => e = .returned (.bool true) ∧ Below w.heap.size w w' := by
  have hB : Below w.heap.size w ((w.alloc (.cells #[.int .i64 y, .int .i64 m, .int .i64 d] 38)).alloc (.cells #[.int .i64 y', .int .i64 m', .int .i64 d'] 38)) := ((Below.refl _ _).alloc (Nat.le_refl _) _).alloc (by simp) _
  have HT : Hid _ := tab_below hT hB (tab_pos hT)
  have U : Hid _ := u.below hB u.pos
  have HB : Hid _ := hB
  have q := eq3 y m d y' m' d'
  have D1 : Hid _ := fun w hT => Days_f y m d w hT h
  have D2 : Hid _ := fun w hT => Days_of y' m' d' w hT
  clear hT u hB
  clear h r
  go_enter Tryd.func6, Tryd.ntmps6
  go_wp2_with fail
  refine (D1.out _ HT.out).mono ?_
  rintro e w1 ⟨rfl, rfl⟩
  go_wp2_with fail
  refine (D2.out _ HT.out).mono ?_
  rintro e w2 ⟨rfl, rfl⟩
  go_wp2_with (go_at_call 10; refine (awake_of _ U.out HT.out).mono ?_; rintro e w3 ⟨rfl, hb⟩)
  all_goals
    go_ret
    exact ⟨rfl, HB.out.trans (hb.mono (by simp; omega))⟩
set_option maxRecDepth 100000 in
set_option maxHeartbeats 1000000 in
theorem walk_f2 {n : Int} (h : dateB y m d = true) (e : dayN y m d = n) (h' : dateB y' m' d' = false)  (hT : Tab w) (u : UT w) :
    Calls Tryd.prog 6 #[A3 y m d, A3 y' m' d'] w fun e w' => e = .returned (.bool true) ∧ Below w.heap.size w w' := by
  have hB : Below w.heap.size w ((w.alloc (.cells #[.int .i64 y, .int .i64 m, .int .i64 d] 38)).alloc (.cells #[.int .i64 y', .int .i64 m', .int .i64 d'] 38)) := ((Below.refl _ _).alloc (Nat.le_refl _) _).alloc (by simp) _
  have HT : Hid _ := tab_below hT hB (tab_pos hT)
  have U : Hid _ := u.below hB u.pos
  have HB : Hid _ := hB
  have q := eq3 y m d y' m' d'
  have D1 : Hid _ := fun w hT => Days_t y m d w hT h e
  have D2 : Hid _ := fun w hT => Days_f y' m' d' w hT h'
  clear hT u hB
  clear h h' e
  go_enter Tryd.func6, Tryd.ntmps6
  go_wp2_with fail
  refine (D1.out _ HT.out).mono ?_
  rintro e w1 ⟨rfl, rfl⟩
  go_wp2_with fail
  refine (D2.out _ HT.out).mono ?_
  rintro e w2 ⟨rfl, rfl⟩
  go_wp2_with (go_at_call 10; refine (awake_of _ U.out HT.out).mono ?_; rintro e w3 ⟨rfl, hb⟩)
  go_ret
  exact ⟨rfl, HB.out.trans (hb.mono (by simp; omega))⟩
theorem walk (hT : Tab w) (u : UT w) :
    Calls Tryd.prog 6 #[A3 y m d, A3 y' m' d'] w fun e w' => e = .returned (.bool true) ∧ Below w.heap.size w w' := by
  cases h : dateB y m d
  · exact walk_f1 y m d y' m' d' w h ⟨_, rfl⟩ hT u
  cases h' : dateB y' m' d'
  · exact walk_f2 y m d y' m' d' w h rfl h' hT u
  rcases Int.lt_trichotomy y y' with a | rfl | a
  · exact walk_y1 y m d y' m' d' w h h' rfl rfl (day_lt h h' (.inl a)) a hT u
  · rcases Int.lt_trichotomy m m' with b | rfl | b
    · exact walk_m1 y m d m' d' w h h' rfl rfl (day_lt h h' (.inr ⟨rfl, .inl b⟩)) b hT u
    · rcases Int.lt_trichotomy d d' with c | rfl | c
      · exact walk_d1 y m d d' w h h' rfl rfl (day_lt h h' (.inr ⟨rfl, .inr ⟨rfl, c⟩⟩)) c hT u
      · exact walk_e y m d w h rfl hT u
      · exact walk_d2 y m d d' w h h' rfl rfl (day_lt h' h (.inr ⟨rfl, .inr ⟨rfl, c⟩⟩)) c hT u
    · exact walk_m2 y m d m' d' w h h' rfl rfl (day_lt h' h (.inr ⟨rfl, .inl b⟩)) b hT u
  · exact walk_y2 y m d y' m' d' w h h' rfl rfl (day_lt h' h (.inl a)) a hT u
end
theorem cells3 : Tryd.prog.cellsOf 38 = 3 := by kernel_rfl
set_option maxRecDepth 100000 in
theorem open_A {H : Type} {enc : TypeId × Value → H} {w : World} {base b0 : Nat} {spare : Nat → Bool} {held : Bool} {r : Reach} {v : Value} {d : DataW H} {p : List MemPlace}
    (hv : Value.okWide Tryd.prog w r b0 38 v) (h : DataW.Trod enc Tryd.prog w base spare held 38 v d p) : ∃ x y z, v = A3 x y z := by
  simp only [Value.okWide, Tryd.underlying38] at hv
  obtain ⟨cs, rfl, hsz, _⟩ := hv
  obtain ⟨c0, c1, c2, rfl⟩ := array3 (hsz.trans cells3)
  obtain ⟨fuel, hf⟩ := h
  obtain ⟨y0, y1, y2, n, _, k0, k1, k2⟩ := trod_array3 (c0 := c0) (c1 := c1) (c2 := c2) Tryd.underlying38 (by kernel_rfl) (by simpa [Value.cells] using hf)
  obtain ⟨x0, e0, _, _⟩ := DataW.trod_int Tryd.underlying3 k0
  obtain ⟨x1, e1, _, _⟩ := DataW.trod_int Tryd.underlying3 k1
  obtain ⟨x2, e2, _, _⟩ := DataW.trod_int Tryd.underlying3 k2
  simp at e0 e1 e2
  subst e0 e1 e2
  exact ⟨_, _, _, rfl⟩
set_option maxRecDepth 100000 in
theorem lifted (os : Os) (started : os.Started) (H : Type) (enc : TypeId × Value → H) :
    ReturnsInHanded {} Tryd.checked os 6 .any (fun w args => (Rows.timesOrderedSpec.pre enc Tryd.prog Tryd.f6 [] false w args ∧ laidMetH Tryd.prog Rows.timesOrderedRow.laid w) ∧ sizedMet enc Tryd.prog Tryd.f6 (OpenSpec.ofChange Rows.timesOrderedSpec) false w args)
      (Rows.timesOrderedSpec.post enc Tryd.prog Tryd.f6 false true false false) := by
  refine returnsInHanded_of_change_and (C := Tryd.checked) (X := fun w _ => laidMetH Tryd.prog Rows.timesOrderedRow.laid w) (fun _ _ _ hh h => h.of_heap hh) own started (by kernel_rfl) Tryd.func6
    (ChangeSpec.witness_shaped (enc := enc) (C := Tryd.checked) (os := os) (X := fun w _ => laidMetH Tryd.prog Rows.timesOrderedRow.laid w) false (World.laidAll Tryd.prog os Rows.timesOrderedRow.laid) #[A3 0 0 0, A3 0 0 0] 8 (World.laidAll_os _ _ _)
      (World.shaped_of_ZipB (by kernel_rfl) (by kernel_rfl)) (by kernel_rfl) (by kernel_rfl) (by kernel_rfl)
      (by rw [MakeChecks.laidMetH_plain _ _ _ (by kernel_rfl)]; exact laidMet_laidAll _ (by kernel_rfl) (by kernel_rfl))) ?_
  intro W base args ds gs before hval0 hW _ _ hL _
  have hval : ∀ (j : Nat) t v, Tryd.f6.params[j]? = some t → args[j]? = some v → Value.okWide Tryd.prog W .any base t v := hval0
  have hW' := hW
  obtain ⟨p, q, hA0, hV, rfl, hfz, hnd⟩ := hW
  have hA : DataW.TrodAll enc Tryd.prog W 0 (fun _ => true) true Tryd.f6.params.toList args.toList ds p := hA0
  rw [Tryd.params6] at hA hval
  obtain ⟨v0, vs0, d0, ds0, p0, q0, hargs, rfl, rfl, h0, r0⟩ := trodAll_cons hA
  obtain ⟨v1, vs1, d1, ds1, p1, q1, rfl, rfl, rfl, h1, r1⟩ := trodAll_cons r0
  obtain ⟨rfl, rfl, rfl⟩ := trodAll_nil r1
  obtain rfl : args = #[v0, v1] := by cases args; simp_all
  obtain ⟨rfl, rfl⟩ := trodVars_none hV
  have k0 := h0
  have lt0 : ∀ x ∈ p0, x.block < W.heap.size := by obtain ⟨m, hm⟩ := k0; exact DataW.trod_lt m _ _ _ hm
  have k1 := h1
  have lt1 : ∀ x ∈ p1, x.block < W.heap.size := by obtain ⟨m, hm⟩ := k1; exact DataW.trod_lt m _ _ _ hm
  obtain ⟨y, m, d, rfl⟩ := open_A (hval 0 38 v0 rfl rfl) h0
  obtain ⟨y', m', d', rfl⟩ := open_A (hval 1 38 v1 rfl rfl) h1
  obtain ⟨hT, hU⟩ := of_laid hL
  clear hA0 hval0 hL
  refine (walk y m d y' m' d' W hT hU).mono fun e W' ⟨he, bel⟩ => ?_
  subst he
  exact ⟨_, rfl, _, _, _, [], _, [], hW', trodAll_mk1 (shut_bool Tryd.underlying4 _), (trodAll_cons_mk (Below.trod laidOut (by kernel_rfl) (of_decide_eq_true (by kernel_rfl)) k0 bel lt0) (trodAll_cons_mk (Below.trod laidOut (by kernel_rfl) (of_decide_eq_true (by kernel_rfl)) k1 bel lt1) trodAll_mk0)), rfl, bel.frame _, fun h => by cases h⟩
theorem row_holds : Rows.TimesOrderedSaid :=
  OpenClaim.holds_of_wide 6 Tryd.f6 rfl rfl rfl rfl rfl rfl rfl ⟨rfl, rfl, rfl, rfl, rfl⟩ rfl rfl rfl rfl rfl (by kernel_rfl) Tryd.func6 (by kernel_rfl)
    (of_decide_eq_true (by kernel_rfl)) (by unfold Func.isWrapper; first | (rw [if_pos (by decide +kernel)]; kernel_rfl) | (rw [if_neg (by decide +kernel)]; exact ⟨rfl, rfl⟩))
    (fun os started H enc _ => lifted os started H enc)
end Go.Proofs.YtmcmpgnkjjcocabDoor.LawTimesOrdered
namespace Go.Proofs.YtmcmpgnkjjcocabDoor
/-- THE STATEMENT, ITS TABLES TIED TO THE TEXTS. -/
theorem timesOrdered_proved : Rows.TimesOrderedCardSaid :=
  Claim7.holds_tied_plain_at .later [] [.data, .data, .data, .pinned, .pinned] true (true, "38e92d460332aee4d0cad945e44f25e8d31bd2d78dfd1e7e69e53907b60b67d3") false
    LawTimesOrdered.row_holds (fun _ h => by cases h) (by kernel_rfl) (fun _ h => by cases h) timesOrdered_row_tie rfl ⟨rfl, rfl⟩ (by kernel_rfl) rfl
    (fun f fn hf hfn => by
      obtain rfl : f = 6 := Option.some.inj ((show Tryd.prog.funcNamed "relay/relaylaw02.TimesOrdered" = some 6 by kernel_rfl).symm.trans hf) |>.symm
      obtain rfl : fn = Tryd.f6 := (Option.some.inj (Tryd.func6.symm.trans hfn)).symm
      exact ⟨by kernel_rfl, fun j t ht => by
        rw [Tryd.params6] at ht
        have hm : t ∈ [38, 38] := by simpa using Array.mem_of_getElem? ht
        have hall : ([38, 38].all fun u => !Tryd.prog.wantsStandIn u) = true := by kernel_rfl
        exact (show Tryd.prog.wantsStandIn t = false by simpa using List.all_eq_true.1 hall t hm)⟩)
    (by kernel_rfl)
end Go.Proofs.YtmcmpgnkjjcocabDoor
