/- What the value package's nearest answers; no statement of the seat is proved here. -/
import Derived.Test.YtpaibmganlaaeaaGreatDoorFz03
import Derived.Handy
import Derived.Deep.Light
import Derived.Test.YtpaibmganlaaeaaGreatDoorFz04
import Derived.Laws.FloatArith
import Derived.Test.YtpaibmganlaaeaaGreatDoorSm
import Derived.Test.YtpaibmganlaaeaaGreatDoorNd
import Derived.Test.YtpaibmganlaaeaaGreatDoorFb
import Derived.Test.YtpaibmganlaaeaaGreatDoorRows
import Derived.Lib.ItoaMem
import Derived.Lib.Walk
import Derived.WalkKit
import Derived.WalkSpells
import Derived.WalkLawsBesides
namespace Go.Proofs.YtpaibmganlaaeaaGreatDoor
set_option linter.unusedVariables false
open Go.RowKit
def sMinus : ByteArray := ⟨#[45]⟩
/-- Does a text begin with a minus sign? -/
def minB (s : ByteArray) : Bool := decide (1 ≤ s.size) && ((s.extract 0 1).toList == [45])
theorem iHasPrefix_of (s : ByteArray) (w : World) : Calls Tryz.prog 199 #[.string s, .string sMinus] w fun e w' => e = .returned (.bool (minB s)) ∧ w' = w := by
  unfold minB sMinus
  by_cases h : 1 ≤ s.size
  · go_enter Tryz.func199, Tryz.ntmps199
    go_wp2
    go_ret
    refine ⟨ret_bool ?_, rfl⟩
    simp [h]
    try rfl
  · go_enter Tryz.func199, Tryz.ntmps199
    go_wp2
    go_ret
    refine ⟨ret_bool ?_, rfl⟩
    simp
/-- What is left behind it. -/
def aftS (s : ByteArray) : ByteArray := if minB s then s.extract 1 s.size else s
theorem iCutPrefix_of (s : ByteArray) (w : World) (hs : s.size ≤ maxLen) : Calls Tryz.prog 190 #[.string s, .string sMinus] w fun e w' => e = .returned (.tuple #[.string (aftS s), .bool (minB s)]) ∧ w' = w := by
  have hm : s.size ≤ 9223372036854775807 := hs
  unfold aftS
  cases c : minB s
  · have C : Hid (minB s = false) := c
    clear c
    go_enter Tryz.func190, Tryz.ntmps190
    go_wp2_with (go_at_call 199; refine (iHasPrefix_of _ _).mono ?_; rintro e w' ⟨rfl, rfl⟩; rw [C.out])
    go_returns
    exact ⟨rfl, rfl⟩
  · have C : Hid (minB s = true) := c
    have h1 : 1 ≤ s.size := by unfold minB at c; simp at c; exact c.1
    have hl : sMinus.size = 1 := rfl
    clear c
    go_enter Tryz.func190, Tryz.ntmps190
    go_wp2_with (go_at_call 199; refine (iHasPrefix_of _ _).mono ?_; rintro e w' ⟨rfl, rfl⟩; rw [C.out])
    go_returns
    exact ⟨rfl, rfl⟩
theorem CutPrefix_of (s : ByteArray) (w : World) (hs : s.size ≤ maxLen) : Calls Tryz.prog 182 #[.string s, .string sMinus] w fun e w' => e = .returned (.tuple #[.string (aftS s), .bool (minB s)]) ∧ w' = w := by
  go_enter Tryz.func182, Tryz.ntmps182
  go_wp2_with (go_at_call 190; refine (iCutPrefix_of _ _ hs).mono ?_; rintro e w' ⟨rfl, rfl⟩)
  go_returns
  exact ⟨rfl, rfl⟩
theorem min_not0 (s : ByteArray) (h : minB s = true) : (s.toList == [48]) = false := by
  rw [beq_eq_false_iff_ne, ByteArray.toList_eq]
  intro q
  have e : s = ⟨#[48]⟩ := by cases s with | mk d => cases d; simp at q; rw [q]
  subst e
  have : minB ⟨#[48]⟩ = false := by kernel_rfl
  rw [this] at h
  cases h
theorem aft_size (s : ByteArray) : (aftS s).size ≤ s.size := by
  unfold aftS
  split
  · rw [ByteArray.size_extract]
    omega
  · exact Nat.le_refl _
/-- A number, and whether there is one. -/
def RdN (e : Ending) : Prop := ∃ n p, e = .returned (.tuple #[NB n, .bool p]) ∧ -18446744073709551616 < n ∧ n < 18446744073709551616
theorem rd_zero : NB 0 = .agg #[.bool false, .int .u64 0] := NB_raw_pos (by omega)
set_option maxHeartbeats 2000000 in
theorem readNumber_of (s : ByteArray) (w : World) (hs : s.size ≤ maxLen) : Calls Tryz.prog 163 #[.string s] w fun e w' => RdN e ∧ Below w.heap.size w w' := by
  have hd : (aftS s).size ≤ maxLen := Nat.le_trans (aft_size s) hs
  have hM : minB s = true → (s.toList == [48]) = false := min_not0 s
  have C : Hid _ := fun w => CutPrefix_of s w hs
  generalize minB s = p at *
  generalize aftS s = d at *
  have hm : d.size ≤ 9223372036854775807 := hd
  go_enter Tryz.func163, Tryz.ntmps163
  by_cases hz : d.size = 0
  · have e : d = ⟨#[]⟩ := by
      cases d with
      | mk a => rw [Array.size_eq_zero_iff.1 hz]
    subst e
    go_wp2_with (go_at_call 182; refine (C.out _).mono ?_; rintro e w' ⟨rfl, rfl⟩)
    exact bodyPost_ret (v := .tuple #[NB 0, .bool false]) (by rw [rd_zero]; simp [results, Tryz.results163, go_sem]) rfl ⟨⟨0, false, rfl, by omega, by omega⟩, (Below.refl _ _).alloc (Nat.le_refl _) _⟩
  · have g : (d.toList == []) = false := by
      rw [beq_eq_false_iff_ne, ByteArray.toList_eq]
      intro q
      have : d.data.toList.length = 0 := by rw [q]; rfl
      rw [Array.length_toList] at this
      exact hz this
    have h0 : 0 < d.size := by omega
    by_cases hq : (d[0].toNat : Int) = 48 ∧ (s.toList == [48]) = false
    · have q1 := hq.1
      have q2 := hq.2
      clear hq
      go_wp2_with (go_at_call 182; refine (C.out _).mono ?_; rintro e w' ⟨rfl, rfl⟩)
      exact bodyPost_ret (v := .tuple #[NB 0, .bool false]) (by rw [rd_zero]; simp [results, Tryz.results163, go_sem]) rfl ⟨⟨0, false, rfl, by omega, by omega⟩, (Below.refl _ _).alloc (Nat.le_refl _) _⟩
    · have hP : p = true → (d[0].toNat : Int) ≠ 48 := fun h e => hq ⟨e, hM h⟩
      have hq' : (d[0].toNat : Int) = 48 → (s.toList == [48]) = true := by
        intro e
        cases f : (s.toList == [48])
        · exact absurd ⟨e, f⟩ hq
        · rfl
      clear hq hM
      by_cases q0 : (d[0].toNat : Int) = 48
      · have q1 := hq' q0
        go_wp2_with (go_at_call 182; refine (C.out _).mono ?_; rintro e w' ⟨rfl, rfl⟩)
        go_loop [6, 28] (fun sz i => ∃ (k : Nat) (z : Int), k ≤ d.size ∧ i = .int .i64 k ∧ sz = .int .u64 z ∧ 0 ≤ z ∧ z ≤ 18446744073709551615 ∧ Hid (p = true → 1 ≤ k → 1 ≤ z)) (fun _ i => d.size - (intOf i).toNat)
        case atStart => exact ⟨0, 0, Nat.zero_le _, rfl, rfl, by omega, by omega, fun _ h => by omega⟩
        case round =>
          obtain ⟨k, z, hk, rfl, rfl, z0, z1, Z⟩ := hrel
          by_cases hlt : k < d.size
          · by_cases c1 : (d[k].toNat : Int) < 48
            · go_wp2
              exact bodyPost_ret (v := .tuple #[NB 0, .bool false]) (by rw [rd_zero]; simp [results, Tryz.results163, go_sem]) rfl ⟨⟨0, false, rfl, by omega, by omega⟩, (Below.refl _ _).alloc (Nat.le_refl _) _⟩
            · by_cases c2 : 57 < (d[k].toNat : Int)
              · go_wp2
                exact bodyPost_ret (v := .tuple #[NB 0, .bool false]) (by rw [rd_zero]; simp [results, Tryz.results163, go_sem]) rfl ⟨⟨0, false, rfl, by omega, by omega⟩, (Below.refl _ _).alloc (Nat.le_refl _) _⟩
              · by_cases c3 : (18446744073709551615 - ((d[k].toNat : Int) - 48)) / 10 < z
                · go_wp2
                  exact bodyPost_ret (v := .tuple #[NB 0, .bool false]) (by rw [rd_zero]; simp [results, Tryz.results163, go_sem]) rfl ⟨⟨0, false, rfl, by omega, by omega⟩, (Below.refl _ _).alloc (Nat.le_refl _) _⟩
                · go_wp2
                  go_round
                  case rel =>
                    go_light
                    refine ⟨k + 1, z * 10 + ((d[k].toNat : Int) - 48), by omega, by go_num, rfl, by omega, by omega, ?_⟩
                    intro hp _
                    have zz := Z.out hp
                    rcases Nat.eq_zero_or_pos k with rfl | k1
                    · have := hP hp
                      omega
                    · have := zz k1
                      omega
                  case measure => simp [intOf]; omega
          · have e : k = d.size := by omega
            have Z' : Hid (p = true → 1 ≤ z) := fun h => Z.out h (by omega)
            clear Z
            subst e
            cases p
            · go_wp2
              exact bodyPost_ret (v := .tuple #[NB z, .bool true]) (by rw [NB_raw_pos z0]; simp [results, Tryz.results163, go_sem]) rfl ⟨⟨z, true, rfl, by omega, by omega⟩, by go_grown⟩
            · have z2 := Z'.out rfl
              go_wp2
              exact bodyPost_ret (v := .tuple #[NB (-z), .bool true]) (by rw [NB_raw_neg (by omega : -z < 0), show ((-z).natAbs : Int) = z by omega]; simp [results, Tryz.results163, go_sem]) rfl ⟨⟨-z, true, rfl, by omega, by omega⟩, by go_grown⟩
      · go_wp2_with (go_at_call 182; refine (C.out _).mono ?_; rintro e w' ⟨rfl, rfl⟩)
        go_loop [6, 28] (fun sz i => ∃ (k : Nat) (z : Int), k ≤ d.size ∧ i = .int .i64 k ∧ sz = .int .u64 z ∧ 0 ≤ z ∧ z ≤ 18446744073709551615 ∧ Hid (p = true → 1 ≤ k → 1 ≤ z)) (fun _ i => d.size - (intOf i).toNat)
        case atStart => exact ⟨0, 0, Nat.zero_le _, rfl, rfl, by omega, by omega, fun _ h => by omega⟩
        case round =>
          obtain ⟨k, z, hk, rfl, rfl, z0, z1, Z⟩ := hrel
          by_cases hlt : k < d.size
          · by_cases c1 : (d[k].toNat : Int) < 48
            · go_wp2
              exact bodyPost_ret (v := .tuple #[NB 0, .bool false]) (by rw [rd_zero]; simp [results, Tryz.results163, go_sem]) rfl ⟨⟨0, false, rfl, by omega, by omega⟩, (Below.refl _ _).alloc (Nat.le_refl _) _⟩
            · by_cases c2 : 57 < (d[k].toNat : Int)
              · go_wp2
                exact bodyPost_ret (v := .tuple #[NB 0, .bool false]) (by rw [rd_zero]; simp [results, Tryz.results163, go_sem]) rfl ⟨⟨0, false, rfl, by omega, by omega⟩, (Below.refl _ _).alloc (Nat.le_refl _) _⟩
              · by_cases c3 : (18446744073709551615 - ((d[k].toNat : Int) - 48)) / 10 < z
                · go_wp2
                  exact bodyPost_ret (v := .tuple #[NB 0, .bool false]) (by rw [rd_zero]; simp [results, Tryz.results163, go_sem]) rfl ⟨⟨0, false, rfl, by omega, by omega⟩, (Below.refl _ _).alloc (Nat.le_refl _) _⟩
                · go_wp2
                  go_round
                  case rel =>
                    go_light
                    refine ⟨k + 1, z * 10 + ((d[k].toNat : Int) - 48), by omega, by go_num, rfl, by omega, by omega, ?_⟩
                    intro hp _
                    have zz := Z.out hp
                    rcases Nat.eq_zero_or_pos k with rfl | k1
                    · have := hP hp
                      omega
                    · have := zz k1
                      omega
                  case measure => simp [intOf]; omega
          · have e : k = d.size := by omega
            have Z' : Hid (p = true → 1 ≤ z) := fun h => Z.out h (by omega)
            clear Z
            subst e
            cases p
            · go_wp2
              exact bodyPost_ret (v := .tuple #[NB z, .bool true]) (by rw [NB_raw_pos z0]; simp [results, Tryz.results163, go_sem]) rfl ⟨⟨z, true, rfl, by omega, by omega⟩, by go_grown⟩
            · have z2 := Z'.out rfl
              go_wp2
              exact bodyPost_ret (v := .tuple #[NB (-z), .bool true]) (by rw [NB_raw_neg (by omega : -z < 0), show ((-z).natAbs : Int) = z by omega]; simp [results, Tryz.results163, go_sem]) rfl ⟨⟨-z, true, rfl, by omega, by omega⟩, by go_grown⟩
end Go.Proofs.YtpaibmganlaaeaaGreatDoor
namespace Go.Proofs.YtpaibmganlaaeaaGreatDoor
set_option linter.unusedVariables false
open Go.RowKit
/-- A float rounded to a whole number. -/
def rte (x : Nat) : Nat := match FloatKind.f64.decode x with
  | .nan s t => x
  | d => FloatKind.f64.encode (d.integral .even)
/-- A NaN that is quiet, or none. -/
def calm (x : Nat) : Prop := ∀ s t, FloatKind.f64.decode x = .nan s t → FloatKind.f64.format.quiet t = t
def rteS (x : Nat) (d : Ieee.Datum) : Sem Value := match d with
  | .nan s t =>
    if FloatKind.f64.format.quiet t = t then pure (.float .f64 x) else do
    let kept ← choose (.extern "math.Floor,Ceil,Trunc,RoundToEven.signallingNaN kept" 2)
    pure (.float .f64 (if kept == 1 then x else FloatKind.f64.encode (.nan s (FloatKind.f64.format.quiet t))))
  | d => pure (.float .f64 (FloatKind.f64.encode (d.integral .even)))
theorem rteS_run (x : Nat) (h : calm x) (w : World) : (rteS x (FloatKind.f64.decode x)).run Tryz.prog w = .ok (.float .f64 (rte x)) w := by
  unfold rte
  unfold calm at h
  cases e : FloatKind.f64.decode x with
  | nan s t =>
    have q := h s t e
    show (if FloatKind.f64.format.quiet t = t then pure (.float .f64 x) else _ : Sem Value).run Tryz.prog w = _
    rw [if_pos q]
    rfl
  | _ => rfl
theorem call_round (x : Nat) (h : calm x) (w : World) : (callFunc 181 #[.float .f64 x]).run Tryz.prog w = .ok (.value (.float .f64 (rte x))) w := by
  refine (run_callFunc_extern (e := Extern.MathFloor.toIntegral "math.RoundToEven" .even) Tryz.func181 (by kernel_rfl) (by kernel_rfl) (by kernel_rfl) (by kernel_rfl) _ w).trans ?_
  have : Extern.MathFloor.toIntegral "math.RoundToEven" .even #[.float .f64 x] = rteS x (FloatKind.f64.decode x) := rfl
  rw [this, rteS_run x h w]
  rfl
theorem wrap_u64_bd (n : Int) : 0 ≤ IntKind.u64.wrap n ∧ IntKind.u64.wrap n < 18446744073709551616 := by
  rw [IntKind.wrap_u64]
  omega
theorem conv_run (b : Nat) (w : World) : ∃ m w', (convert 71 25 (.float .f64 b)).run Tryz.prog w = .ok (.int .u64 m) w' ∧ 0 ≤ m ∧ m < 18446744073709551616 ∧ (w' = w ∨ w' = w.drew) := by
  cases h : floatToIntVal .f64 b .u64 with
  | some n =>
    refine ⟨n, w, run_convert_float_int w 71 25 .f64 .u64 b n (by rw [Tryz.underlying71]; rfl) Tryz.underlying25 h, ?_, ?_, Or.inl rfl⟩
    · have := bounds_u64 (floatToIntVal_wf h)
      omega
    · have := bounds_u64 (floatToIntVal_wf h)
      omega
  | none =>
    have e : (convert 71 25 (.float .f64 b)).run Tryz.prog w = .ok (.int .u64 (IntKind.u64.wrap (Question.cut (.floatToInt .f64 b .u64) (w.tape w.drawn (.floatToInt .f64 b .u64))))) w.drew := by
      unfold floatToIntVal at h
      split at h
      · rename_i m he
        split at h
        · cases h
        · rename_i hb
          simp [convert, run_underlying Tryz.underlying71, run_underlying Tryz.underlying25, Conv.floatToInt, he, hb, Question.forced]
      · rename_i he
        simp [convert, run_underlying Tryz.underlying71, run_underlying Tryz.underlying25, Conv.floatToInt, he, Question.forced]
    exact ⟨_, _, e, (wrap_u64_bd _).1, (wrap_u64_bd _).2, Or.inr rfl⟩
theorem Abs_of (x : Nat) (w : World) : Calls Tryz.prog 96 #[.float .f64 x] w fun e w' => e = .returned (.float .f64 (bits BinOp.andNot IntKind.u64 (x : Int) 9223372036854775808).toNat) ∧ w' = w := by
  have hx := call_bits
  have hy := call_frombits
  go_enter Tryz.func96, Tryz.ntmps96
  go_wp2
  go_ret
  exact ⟨rfl, rfl⟩
theorem IsNaN_of (x : Nat) (w : World) : Calls Tryz.prog 82 #[.float .f64 x] w fun e w' => e = .returned (.bool (fnan x)) ∧ w' = w := by
  have h := order_self_ne x
  go_enter Tryz.func82, Tryz.ntmps82
  go_wp2
  go_ret
  refine ⟨ret_bool ?_, rfl⟩
  rfl
theorem sgn_bd (p : Bool) (m : Int) (h0 : 0 ≤ m) (h1 : m < 18446744073709551616) : -18446744073709551616 < sgn p m ∧ sgn p m < 18446744073709551616 := by
  unfold sgn
  split <;> omega
theorem box2 {w wc w' : World} {T : TypeId} (hw : wc = w.alloc (.cells #[.bool false, .int .u64 0] T) ∨ wc = (w.alloc (.cells #[.bool false, .int .u64 0] T)).drew) (hb : Below wc.heap.size wc w') :
    Below w.heap.size w w' ∧ w.heap.size < w'.heap.size ∧ w'.cell? ⟨w.heap.size, 0, none⟩ = some (.bool false) ∧ w'.cell? ⟨w.heap.size, 1, none⟩ = some (.int .u64 0) ∧ w'.frozen? ⟨w.heap.size, 0, none⟩ = false ∧ w'.frozen? ⟨w.heap.size, 1, none⟩ = false := by
  have B : Below w.heap.size w wc := by
    rcases hw with rfl | rfl
    · exact (Below.refl _ _).alloc (Nat.le_refl _) _
    · exact ((Below.refl _ _).alloc (Nat.le_refl _) _).drew
  have l : w.heap.size < wc.heap.size := by rcases hw with rfl | rfl <;> simp
  refine ⟨B.trans (hb.mono B.size), Nat.lt_of_lt_of_le l hb.size, ?_, ?_, ?_, ?_⟩
  · rw [hb.cell (p := ⟨w.heap.size, 0, none⟩) l]
    rcases hw with rfl | rfl <;> simp
  · rw [hb.cell (p := ⟨w.heap.size, 1, none⟩) l]
    rcases hw with rfl | rfl <;> simp
  · rw [hb.frozen (p := ⟨w.heap.size, 0, none⟩) l]
    rcases hw with rfl | rfl <;> simp
  · rw [hb.frozen (p := ⟨w.heap.size, 1, none⟩) l]
    rcases hw with rfl | rfl <;> simp
set_option maxRecDepth 100000 in
set_option maxHeartbeats 1000000 in
theorem rounded_of (x : Nat) (h : calm x) (w : World) : Calls Tryz.prog 162 #[.float .f64 x] w fun e w' => RdN e ∧ Below w.heap.size w w' := by
  have hr := call_round x h
  clear h
  obtain ⟨m, wc, hcv, m0, m1, hw⟩ := conv_run (bits BinOp.andNot IntKind.u64 (rte x : Int) 9223372036854775808).toNat (w.alloc (.cells #[.bool false, .int .u64 0] 112))
  have HW : Hid _ := hw
  clear hw
  cases c1 : fnan x
  · cases c2 : (FloatKind.f64.format.order (bits BinOp.andNot IntKind.u64 (rte x : Int) 9223372036854775808).toNat 4895412794951729152 == some Ordering.gt || FloatKind.f64.format.order (bits BinOp.andNot IntKind.u64 (rte x : Int) 9223372036854775808).toNat 4895412794951729152 == some Ordering.eq)
    · rw [Bool.or_eq_false_iff] at c2
      obtain ⟨c2, c3⟩ := c2
      go_enter Tryz.func162, Tryz.ntmps162
      go_wp2_with (first
        | (go_at_call 96; refine (Abs_of _ _).mono ?_; rintro e w' ⟨rfl, rfl⟩)
        | (go_at_call 82; refine (IsNaN_of _ _).mono ?_; rintro e w' ⟨rfl, rfl⟩)
        | (go_at_call 160; refine (signed_of _ _ _ m0).mono ?_; rintro e w' ⟨rfl, hb⟩; obtain ⟨B, l, q0, q1, f0, f1⟩ := box2 HW.out hb))
      generalize (FloatKind.f64.format.order x 0 == some Ordering.lt) = p
      exact bodyPost_ret (v := .tuple #[NB (sgn p m), .bool true]) (by simp [results, Tryz.results162, go_sem, q0, q1, NB]) rfl ⟨⟨sgn p m, true, rfl, (sgn_bd p m m0 m1).1, (sgn_bd p m m0 m1).2⟩, (B.setCell (by simp) _).setCell (by simp) _⟩
    · rw [Bool.or_eq_true_iff] at c2
      rcases c2 with c2 | c2
      all_goals
        go_enter Tryz.func162, Tryz.ntmps162
        go_wp2_with (first
          | (go_at_call 96; refine (Abs_of _ _).mono ?_; rintro e w' ⟨rfl, rfl⟩)
          | (go_at_call 82; refine (IsNaN_of _ _).mono ?_; rintro e w' ⟨rfl, rfl⟩))
        exact bodyPost_ret (v := .tuple #[NB 0, .bool false]) (by rw [rd_zero]; simp [results, Tryz.results162, go_sem]) rfl ⟨⟨0, false, rfl, by omega, by omega⟩, (Below.refl _ _).alloc (Nat.le_refl _) _⟩
  · go_enter Tryz.func162, Tryz.ntmps162
    go_wp2_with (first
      | (go_at_call 96; refine (Abs_of _ _).mono ?_; rintro e w' ⟨rfl, rfl⟩)
      | (go_at_call 82; refine (IsNaN_of _ _).mono ?_; rintro e w' ⟨rfl, rfl⟩))
    exact bodyPost_ret (v := .tuple #[NB 0, .bool false]) (by rw [rd_zero]; simp [results, Tryz.results162, go_sem]) rfl ⟨⟨0, false, rfl, by omega, by omega⟩, (Below.refl _ _).alloc (Nat.le_refl _) _⟩
end Go.Proofs.YtpaibmganlaaeaaGreatDoor
namespace Go.Proofs.YtpaibmganlaaeaaGreatDoor
set_option linter.unusedVariables false
open Go.RowKit Go.Sort Go.Lib
/-- The new block's bytes are a row of zeros. -/
theorem holds_zero0 (w : World) (T : TypeId) (nd : Nat) (hs : nd ≤ 24) : Holds (fun (b : UInt8) => Value.int .u8 (b.toNat : Int)) (w.alloc (.cells zeros24 T)) w.heap.size 0 (Array.replicate nd (0 : UInt8)) := fun j hj => by
  have hj' : j < nd := by simpa using hj
  refine ⟨?_, World.frozen?_alloc_new _ _ _ _⟩
  rw [World.cell?_alloc_new, zeros24_at _ (by omega), getElem!_pos _ j hj]
  simp
theorem fin0 (w : World) (o : Obj) (dk : Array UInt8) (k : Nat) : Below w.heap.size w ((putRow (fun (b : UInt8) => Value.int .u8 (b.toNat : Int)) (w.alloc o) w.heap.size 0 dk).drewN k) := by
  rw [alloc_eq_grow]
  obtain ⟨os', _, e⟩ := putRow_grow_new (fun (b : UInt8) => Value.int .u8 (b.toNat : Int)) w #[o] w.heap.size 0 dk (Nat.le_refl _)
  rw [e]
  exact ⟨rfl, rfl, rfl, by show w.heap.size ≤ (grow w os').heap.size; simp, fun j hj => heap_grow_old w os' hj⟩
abbrev Pow (w : World) : Prop := Lib.TabIs Tryz.prog w "internal/strconv.uint64pow10" .u64 Lib.pow10Tab
set_option maxHeartbeats 6400000 in
set_option maxRecDepth 100000 in
theorem iFormatUint_of (u : Nat) (h : u < 18446744073709551616) (w : World) (htab : Pow w) :
    Calls Tryz.prog 196 #[.int .u64 u, .int .i64 10] w fun e w' => e = .returned (.string ⟨(Lib.decDigits u).toArray⟩) ∧ Below w.heap.size w w' := by
  by_cases hs : u < 100
  · go_enter Tryz.func196, Tryz.ntmps196
    go_wp2_with (go_at_call 205; refine (Tryz.internal_strconv_small u hs _).mono ?_; rintro e w' ⟨rfl, rfl⟩)
    go_ret
    exact ⟨rfl, Below.refl _ _⟩
  · have hu1 : 1 ≤ u := by omega
    have hnd20 : Lib.nDigits u ≤ 20 := by have := Lib.numDigits_eq u hu1 h; split at this <;> omega
    have hal : Tryz.prog.arrayLen 183 = 24 := by simp [Program.arrayLen, Tryz.underlying183]
    have hsl1 : ∀ W, (Instr.sliceAt 183 (.pointer (some ⟨w.heap.size, 0, none⟩)) none (some (.int .i64 (Lib.nDigits u : Int))) none).run Tryz.prog W = .ok (.slice (some ⟨w.heap.size, 0, none⟩) (Lib.nDigits u) 24) W := fun W => by
      rw [run_sliceAt_array_h W 183 ⟨w.heap.size, 0, none⟩ (by simp [Program.arrayLen, Program.elem, Tryz.underlying183]) .i64 (Lib.nDigits u : Int) (by omega) (by rw [hal]; omega)]
      simp [Program.elem, Tryz.underlying183, go_sem, slicedAt, Tryz.sizeOf5]
    have hH0 := holds_zero0 w 183 (Lib.nDigits u) (by omega)
    have hfmt := Tryz.internal_strconv_formatBase10 w.heap.size 0 24 u (Array.replicate (Lib.nDigits u) 0) (w.alloc (.cells Lib.zeros24 183)) hH0 (by rw [Array.size_replicate]; exact Lib.lt_pow_nDigits u) h (by rw [Array.size_replicate]; omega)
    rw [Array.size_replicate] at hfmt
    have HF : Hid _ := hfmt
    have HH0 := Lib.hid hH0
    clear hH0 hal hfmt
    have ND : Hid _ := Tryz.internal_strconv_numDigits u hu1 h _ (Lib.tabIs_alloc htab (.cells Lib.zeros24 183))
    clear htab
    go_enter Tryz.func196, Tryz.ntmps196
    go_wp2_with (go_at_call 206; refine Calls.mono ND.out ?_; rintro e w' ⟨rfl, rfl⟩)
    refine Calls.mono HF.out ?_
    rintro e w' ⟨rfl, k, v', dk, rfl, hF⟩
    have hcv : (convert 95 9 (.slice (some ⟨w.heap.size, 0, none⟩) (Lib.nDigits u) 24)).run Tryz.prog ((putRow (fun (b : UInt8) => Value.int .u8 (b.toNat : Int)) (w.alloc (.cells Lib.zeros24 183)) w.heap.size 0 dk).drewN k) = .ok (.string ⟨(Lib.decDigits u).toArray⟩) ((putRow (fun (b : UInt8) => Value.int .u8 (b.toNat : Int)) (w.alloc (.cells Lib.zeros24 183)) w.heap.size 0 dk).drewN k) := by
      have h := run_convert_bytes_back (P := Tryz.prog) ((putRow (fun (b : UInt8) => Value.int .u8 (b.toNat : Int)) (w.alloc (.cells Lib.zeros24 183)) w.heap.size 0 dk).drewN k) 95 9 5 ⟨w.heap.size, 0, none⟩ 24 (Lib.decDigits u) Tryz.underlying95 Tryz.underlying5 Tryz.underlying9 (fun j hj => by
        rw [Lib.row_is_numeral hF j hj, Lib.add_plain, World.cell?_drewN]
        exact cell?_putRow (fun (b : UInt8) => Value.int .u8 (b.toNat : Int)) _ w.heap.size 0 _ dk HH0.out (by rw [hF.size, Array.size_replicate]) j (by rw [hF.size]; rw [Lib.decDigits_length] at hj; exact hj))
      rw [Lib.decDigits_length] at h
      exact h
    have F : Hid _ := fin0 w (.cells Lib.zeros24 183) dk k
    go_wp2
    go_ret
    exact ⟨rfl, F.out⟩
theorem FormatUint_of (u : Nat) (h : u < 18446744073709551616) (w : World) (htab : Pow w) :
    Calls Tryz.prog 187 #[.int .u64 u, .int .i64 10] w fun e w' => e = .returned (.string ⟨(Lib.decDigits u).toArray⟩) ∧ Below w.heap.size w w' := by
  go_enter Tryz.func187, Tryz.ntmps187
  go_wp2_with (go_at_call 196; refine (iFormatUint_of u h _ htab).mono ?_; rintro e w' ⟨rfl, hb⟩)
  go_ret
  exact ⟨rfl, hb⟩
end Go.Proofs.YtpaibmganlaaeaaGreatDoor
namespace Go.Proofs.YtpaibmganlaaeaaGreatDoor
set_option linter.unusedVariables false
open Go.RowKit
theorem pow_below {w w' : World} (h : Pow w) (hb : Below w.heap.size w w') : Pow w' := by
  unfold Pow Lib.TabIs World.var? at *
  cases hg : Tryz.prog.globalNamed "internal/strconv.uint64pow10" with
  | none => simp [hg] at h
  | some g =>
    simp only [hg, Option.bind_some] at h ⊢
    have hlt : g < w.heap.size := by
      rcases Nat.lt_or_ge g w.heap.size with h' | h'
      · exact h'
      · rw [Array.getElem?_eq_none h'] at h; simp at h
    rw [hb.block g hlt]
    exact h
/-- A number's digits, as bytes. -/
def decS (u : Nat) : ByteArray := ⟨(Lib.decDigits u).toArray⟩
theorem decS_size (u : Nat) (h : u < 18446744073709551616) : (decS u).size ≤ 20 := by
  have e : (decS u).size = (Lib.decDigits u).length := by unfold decS; simp [ByteArray.size]
  rw [e, Lib.decDigits_length]
  rcases Nat.eq_zero_or_pos u with rfl | hu
  · have : Lib.nDigits 0 = 1 := by kernel_rfl
    omega
  · have := Lib.numDigits_eq u hu h
    split at this <;> omega
set_option maxHeartbeats 1000000 in
theorem printNumber_of (n : Int) (w : World) (hP : Pow w) (h0 : -18446744073709551616 < n) (h1 : n < 18446744073709551616) :
    Calls Tryz.prog 185 #[NB n] w fun e w' => (∃ t, e = .returned (.string t) ∧ t.size ≤ 21) ∧ Below w.heap.size w w' := by
  have hu : n.natAbs < 18446744073709551616 := by omega
  have F : Hid (∀ o, Calls Tryz.prog 187 #[.int .u64 (n.natAbs : Nat), .int .i64 10] (w.alloc o) fun e w' => e = .returned (.string (decS n.natAbs)) ∧ Below (w.alloc o).heap.size (w.alloc o) w') :=
    fun o => FormatUint_of n.natAbs hu _ (pow_below hP ((Below.refl _ _).alloc (Nat.le_refl _) o))
  have S := decS_size n.natAbs hu
  clear hP
  by_cases hn : n < 0
  · rw [NB_raw_neg hn]
    generalize decS n.natAbs = t at *
    go_enter Tryz.func185, Tryz.ntmps185
    go_wp2_with (go_at_call 187; refine (F.out _).mono ?_; rintro e w' ⟨rfl, hb⟩)
    go_ret
    refine ⟨⟨_, rfl, ?_⟩, ((Below.refl _ _).alloc (Nat.le_refl _) _).trans (hb.mono (by simp))⟩
    rw [ByteArray.size_append]
    have : (⟨#[45]⟩ : ByteArray).size = 1 := rfl
    omega
  · rw [NB_raw_pos (by omega), show n = (n.natAbs : Int) by omega]
    generalize decS n.natAbs = t at *
    go_enter Tryz.func185, Tryz.ntmps185
    go_wp2_with (go_at_call 187; refine (F.out _).mono ?_; rintro e w' ⟨rfl, hb⟩)
    go_ret
    exact ⟨⟨t, rfl, by omega⟩, ((Below.refl _ _).alloc (Nat.le_refl _) _).trans (hb.mono (by simp))⟩
set_option maxHeartbeats 1000000 in
theorem isRow_is (k : Int) (w : World) (p : Bool) (hk : 0 ≤ k ∧ k < 256) (h : p = decide (10 ≤ k ∧ k ≤ 13)) : Calls Tryz.prog 157 #[.int .u8 k] w fun e w' => e = .returned (.bool p) ∧ w' = w := by
  subst h
  rcases kinds k hk with rfl | rfl | rfl | rfl | rfl | rfl | rfl | rfl | rfl | rfl | rfl | rfl | rfl | rfl | rfl | rfl | rfl | rfl | rfl | rfl | hk2
  all_goals
    go_enter Tryz.func157, Tryz.ntmps157
    go_wp2
    go_ret
    exact ⟨ret_bool (by first | rfl | (symm; simp; omega)), rfl⟩
/-- A value lies in a box. -/
structure Lies (W : World) (p : Nat) (k b : Int) (s : ByteArray) : Prop where
  lt : p < W.heap.size
  c0 : W.cell? ⟨p, 0, none⟩ = some (.int .u8 k)
  c1 : W.cell? ⟨p, 1, none⟩ = some (.int .u64 b)
  c2 : W.cell? ⟨p, 2, none⟩ = some (.string s)
theorem Lies.next {W w' : World} {p : Nat} {k b : Int} {s : ByteArray} (h : Lies W p k b s) (hb : Below W.heap.size W w') : Lies w' p k b s :=
  ⟨Nat.lt_of_lt_of_le h.lt hb.size, by rw [hb.cell (p := ⟨p, 0, none⟩) h.lt]; exact h.c0, by rw [hb.cell (p := ⟨p, 1, none⟩) h.lt]; exact h.c1, by rw [hb.cell (p := ⟨p, 2, none⟩) h.lt]; exact h.c2⟩
theorem Lies.alloc {W : World} {p : Nat} {k b : Int} {s : ByteArray} (h : Lies W p k b s) (o : Obj) : Lies (W.alloc o) p k b s := h.next ((Below.refl _ _).alloc (Nat.le_refl _) _)
theorem Lies.new (W : World) (k b : Int) (s : ByteArray) (t : TypeId) : Lies (W.alloc (.cells #[.int .u8 k, .int .u64 b, .string s] t)) W.heap.size k b s :=
  ⟨by simp, by simp, by simp, by simp⟩
set_option maxRecDepth 100000 in
set_option maxHeartbeats 2000000 in
theorem print_b (b : Int) (s : ByteArray) (w : World) (M : Hid (∀ w, Calls Tryz.prog 15 #[V 1 1 s] w fun e w' => e = .returned (.bool true) ∧ Below w.heap.size w w')) :
    Calls Tryz.prog 164 #[V 1 1 s] w fun e w' => (∃ t, e = .returned (.string t) ∧ t.size ≤ 21) ∧ Below w.heap.size w w' := by
  go_enter Tryz.func164, Tryz.ntmps164
  go_wp2_with fail
  refine (M.out _).mono ?_
  rintro e w1 ⟨rfl, hb⟩
  have B : Hid (Below w.heap.size w w1) := ((Below.refl _ _).alloc (Nat.le_refl _) _).trans (hb.mono (by simp))
  obtain ⟨l0, c00, c01, c02⟩ := (Lies.new w 1 1 s _).next hb
  clear hb
  go_wp2
  go_ret
  exact ⟨⟨_, rfl, by decide⟩, B.out⟩
set_option maxRecDepth 100000 in
set_option maxHeartbeats 2000000 in
theorem Print_of (k b : Int) (s : ByteArray) (w : World) (hP : Pow w) (h0 : 0 ≤ b) (h1 : b < 18446744073709551616) (hk : 1 ≤ k ∧ k ≤ 9) (hs : s.size ≤ maxLen) (m : may3 k b s = true) :
    Calls Tryz.prog 164 #[V k b s] w fun e w' => (∃ t, e = .returned (.string t) ∧ t.size ≤ 21) ∧ Below w.heap.size w w' := by
  have M : Hid (∀ w, Calls Tryz.prog 15 #[V k b s] w fun e w' => e = .returned (.bool true) ∧ Below w.heap.size w w') := fun w => by
    have := May_of k b s w h0 h1 (by omega) hs
    rwa [m] at this
  clear m
  by_cases e1 : k = 1
  · subst e1
    by_cases b1 : b = 1
    case pos => subst b1; exact print_b 1 s w M
    case neg =>
      go_enter Tryz.func164, Tryz.ntmps164
      go_wp2_with fail
      refine (M.out _).mono ?_
      rintro e w1 ⟨rfl, hb⟩
      have B : Hid (Below w.heap.size w w1) := ((Below.refl _ _).alloc (Nat.le_refl _) _).trans (hb.mono (by simp))
      obtain ⟨l0, c00, c01, c02⟩ := (Lies.new w 1 _ s _).next hb
      clear hb
      go_wp2
      go_ret
      exact ⟨⟨_, rfl, by decide⟩, B.out⟩
  · have f1 : (k == 1) = false := by simpa using e1
    have f19 : (k == 19) = false := by simp; omega
    have f18 : (k == 18) = false := by simp; omega
    have HP : Hid (Pow w) := hP
    have N1 : Hid (-18446744073709551616 < num k b ∧ num k b < 18446744073709551616) := by
      show _ ∧ _
      have := num_bd k b h0 h1
      omega
    clear hP
    go_enter Tryz.func164, Tryz.ntmps164
    go_wp2_with fail
    refine (M.out _).mono ?_
    rintro e w1 ⟨rfl, hb⟩
    have B : Hid (Below w.heap.size w w1) := ((Below.refl _ _).alloc (Nat.le_refl _) _).trans (hb.mono (by simp))
    have A0 : Hid _ := (Lies.new w k b s _).next hb
    obtain ⟨l0, c00, c01, c02⟩ := A0.out
    clear hb
    go_wp2_with fail
    refine (isRow_is k _ false (by omega) (by symm; simp; omega)).mono ?_
    rintro e w2 ⟨rfl, rfl⟩
    go_wp2_with fail
    refine (numberOf_of k b s _ h0 h1).mono ?_
    rintro e w3 ⟨rfl, hb⟩
    have B3 : Hid (Below w.heap.size w w3) := B.out.trans (hb.mono B.out.size)
    have P3 : Hid (Pow w3) := pow_below HP.out B3.out
    clear hb
    go_wp2_with fail
    refine (printNumber_of (num k b) _ P3.out N1.out.1 N1.out.2).mono ?_
    rintro e w4 ⟨⟨t, rfl, ht⟩, hb⟩
    go_wp2
    go_ret
    exact ⟨⟨t, rfl, ht⟩, B3.out.trans (hb.mono B3.out.size)⟩
end Go.Proofs.YtpaibmganlaaeaaGreatDoor
namespace Go.Proofs.YtpaibmganlaaeaaGreatDoor
set_option linter.unusedVariables false
open Go.RowKit
/-- The STRING of a text, or the fault. -/
def textR (s : ByteArray) : Value := if s.size ≤ 254 then .tuple #[V 19 0 s, .int .i64 0] else .tuple #[V 0 0 E0, .int .i64 5]
set_option maxHeartbeats 400000 in
theorem Text_of (s : ByteArray) (w : World) (hs : s.size ≤ maxLen) : Calls Tryz.prog 109 #[.string s] w fun e w' => e = .returned (textR s) ∧ Below w.heap.size w w' := by
  unfold maxLen at hs
  unfold textR
  by_cases c : s.size ≤ 254
  · rw [if_pos c]
    go_enter Tryz.func109, Tryz.ntmps109
    go_wp2
    exact bodyPost_ret (v := .tuple #[V 19 0 s, .int .i64 0]) (by simp [results, Tryz.results109, go_sem]) rfl ⟨rfl, (Below.refl _ _).alloc (Nat.le_refl _) _⟩
  · rw [if_neg c]
    go_enter Tryz.func109, Tryz.ntmps109
    go_wp2
    exact bodyPost_ret (v := .tuple #[V 0 0 E0, .int .i64 5]) (by simp [results, Tryz.results109, go_sem]) rfl ⟨rfl, (Below.refl _ _).alloc (Nat.le_refl _) _⟩
set_option maxHeartbeats 400000 in
theorem TextR_of (s : ByteArray) (w : World) (hs : s.size ≤ maxLen) : Calls Tryz.prog 176 #[.string s] w fun e w' => e = .returned (textR s) ∧ Below w.heap.size w w' := by
  unfold maxLen at hs
  unfold textR
  by_cases c : s.size ≤ 254
  · rw [if_pos c]
    go_enter Tryz.func176, Tryz.ntmps176
    go_wp2
    exact bodyPost_ret (v := .tuple #[V 19 0 s, .int .i64 0]) (by simp [results, Tryz.results176, go_sem]) rfl ⟨rfl, (Below.refl _ _).alloc (Nat.le_refl _) _⟩
  · rw [if_neg c]
    go_enter Tryz.func176, Tryz.ntmps176
    go_wp2
    exact bodyPost_ret (v := .tuple #[V 0 0 E0, .int .i64 5]) (by simp [results, Tryz.results176, go_sem]) rfl ⟨rfl, (Below.refl _ _).alloc (Nat.le_refl _) _⟩
end Go.Proofs.YtpaibmganlaaeaaGreatDoor
namespace Go.Proofs.YtpaibmganlaaeaaGreatDoor
set_option linter.unusedVariables false
open Go.RowKit
/-- The nearest word to a number below 0 is the other sign's of its size. -/
theorem cut_even (a b : Bool) (n d : Nat) : Ieee.Toward.even.cut a n d = Ieee.Toward.even.cut b n d := rfl
theorem weight_f64 : FloatKind.f64.format.signWeight = 9223372036854775808 := by
  show 2 ^ (11 + 52) = 9223372036854775808
  decide
theorem inf_f64 : FloatKind.f64.format.infRung = 9218868437227405312 := by
  show (2 ^ 11 - 1) * 2 ^ 52 = 9218868437227405312
  decide
/-- The rung of a number's size. -/
def rungN (m : Nat) : Nat :=
  min (((max ((0 : Int) + m.log2 - FloatKind.f64.format.fractionBits) FloatKind.f64.format.leastPlace) - FloatKind.f64.format.leastPlace).toNat * FloatKind.f64.format.binade +
    Ieee.Toward.even.cut false (m <<< ((0 : Int) - (max ((0 : Int) + m.log2 - FloatKind.f64.format.fractionBits) FloatKind.f64.format.leastPlace)).toNat) ((max ((0 : Int) + m.log2 - FloatKind.f64.format.fractionBits) FloatKind.f64.format.leastPlace) - 0).toNat) FloatKind.f64.format.infRung
theorem nearest_word (neg : Bool) (m : Nat) (h : ¬ m = 0) : FloatKind.f64.format.nearest neg m 0 = FloatKind.f64.format.word neg (rungN m) := by
  unfold Ieee.Format.nearest rungN
  rw [if_neg h]
  dsimp only
  rw [cut_even neg false]
theorem rungN_le (m : Nat) : rungN m ≤ FloatKind.f64.format.infRung := Nat.min_le_right _ _
theorem nearest_sign (m : Nat) (h : 0 < m) : FloatKind.f64.format.nearest true m 0 = 9223372036854775808 + FloatKind.f64.format.nearest false m 0 := by
  rw [nearest_word true m (by omega), nearest_word false m (by omega)]
  generalize rungN m = r
  simp only [Ieee.Format.word, weight_f64, if_true, Bool.false_eq_true, if_false]
theorem nearest_lt (m : Nat) (h : 0 < m) : FloatKind.f64.format.nearest false m 0 < 9223372036854775808 := by
  rw [nearest_word false m (by omega)]
  have := rungN_le m
  rw [inf_f64] at this
  generalize rungN m = r at *
  simp only [Ieee.Format.word, Bool.false_eq_true, if_false]
  omega
theorem xor_top (r : Nat) (h : r < 9223372036854775808) : r ^^^ 9223372036854775808 = 9223372036854775808 + r := by
  have : (2 ^ 63 ^^^ r : Nat) = 2 ^ 63 + r := by
    have := Nat.two_pow_add_eq_or_of_lt (i := 63) (b := r) (by simpa using h) 1
    rw [Nat.mul_one] at this
    rw [this]
    apply Nat.eq_of_testBit_eq
    intro i
    rw [Nat.testBit_xor, Nat.testBit_or, Nat.testBit_two_pow]
    by_cases c : 63 = i
    · subst c
      have : r.testBit 63 = false := Nat.testBit_lt_two_pow (by simpa using h)
      simp [this]
    · simp [c]
  rw [Nat.xor_comm]
  exact this
theorem float_neg (n : Int) (h : n < 0) : Op.negFloat .f64 (floatOfInt .f64 (n.natAbs : Int)) = floatOfInt .f64 n := by
  show (FloatKind.f64.format.nearest (decide ((n.natAbs : Int) < 0)) (n.natAbs : Int).natAbs 0) ^^^ 9223372036854775808 = FloatKind.f64.format.nearest (decide (n < 0)) n.natAbs 0
  have e1 : decide ((n.natAbs : Int) < 0) = false := by simp
  have e2 : decide (n < 0) = true := by simpa using h
  rw [e1, e2, Int.natAbs_natCast, nearest_sign _ (by omega), xor_top _ (nearest_lt _ (by omega))]
set_option maxHeartbeats 400000 in
theorem nearest_of (n : Int) (w : World) : Calls Tryz.prog 134 #[NB n] w fun e w' => e = .returned (.float .f64 (floatOfInt .f64 n)) ∧ Below w.heap.size w w' := by
  by_cases h : n < 0
  · rw [NB_raw_neg h, ← float_neg n h]
    have hn : ∀ (m : Nat) w, (Op.unary UnOp.neg (.float .f64 m)).run Tryz.prog w = .ok (.float .f64 (Op.negFloat .f64 m)) w := fun _ _ => rfl
    go_enter Tryz.func134, Tryz.ntmps134
    go_wp2
    go_ret
    exact ⟨rfl, (Below.refl _ _).alloc (Nat.le_refl _) _⟩
  · rw [NB_raw_pos (by omega)]
    go_enter Tryz.func134, Tryz.ntmps134
    go_wp2
    go_ret
    exact ⟨rfl, (Below.refl _ _).alloc (Nat.le_refl _) _⟩
end Go.Proofs.YtpaibmganlaaeaaGreatDoor
