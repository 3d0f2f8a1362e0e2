/- Rows of codes and of tasks compared; two images compared; no statement of the seat is proved here. -/
import Derived.Test.YtahgnmbkobiclaaGreatJnA3
import Derived.Test.YtahgnmbkobiclaaGreatJnA2
import Derived.Handy
import Derived.Test.YtahgnmbkobiclaaGreatJnA1
import Derived.Test.YtahgnmbkobiclaaGreatImDJ
namespace Go.Proofs.YtahgnmbkobiclaaGreat
set_option linter.unusedVariables false
open Go.RowKit
/-- An api.Type. -/
abbrev T (tk : Int) (sub : Bool) (lo hi mx : Int) (arr : Bool) (fr tz : Int) (bl : ByteArray) : Value :=
  .agg #[.int .u8 tk, .bool sub, .int .i64 lo, .int .i64 hi, .int .i64 mx, .bool arr, .int .i64 fr, .int .i64 tz, .string bl]
/-- The fault that keeps a value from a variable of a type. -/
def fitsF (k b : Int) (s : ByteArray) (tk : Int) (sub : Bool) (lo hi mx : Int) : Int :=
  if may3 k b s = false ∨ ¬ k = tk then 8 else if sub = true ∧ (2 ≤ k ∧ k ≤ 9) ∧ ¬ (lo ≤ num k b ∧ num k b ≤ hi) then 3
  else if k = 19 ∧ 1 ≤ mx ∧ mx < s.size then 5 else 0
set_option maxHeartbeats 400000 in
theorem isInteger_of (k : Int) (w : World) (p : Bool) (h : p = decide (2 ≤ k ∧ k ≤ 9)) : Calls Tryz.prog 138 #[.int .u8 k] w fun e w' => e = .returned (.bool p) ∧ w' = w := by
  subst h
  by_cases c : 2 ≤ k
  · by_cases d : k ≤ 9
    · go_enter Tryz.func138, Tryz.ntmps138
      go_wp2
      go_ret
      exact ⟨ret_bool (by simp [*]), rfl⟩
    · go_enter Tryz.func138, Tryz.ntmps138
      go_wp2
      go_ret
      exact ⟨ret_bool (by symm; simp; omega), rfl⟩
  · go_enter Tryz.func138, Tryz.ntmps138
    go_wp2
    go_ret
    exact ⟨ret_bool (by symm; simp; omega), rfl⟩
theorem fitsF_c1 (k b : Int) (s : ByteArray) (sub : Bool) (lo hi mx : Int) (c : may3 k b s = true) (d : ¬ (sub = true ∧ (2 ≤ k ∧ k ≤ 9) ∧ ¬ (lo ≤ num k b ∧ num k b ≤ hi))) : fitsF k b s k sub lo hi mx = if k = 19 ∧ 1 ≤ mx ∧ mx < s.size then 5 else 0 := by
  unfold fitsF; rw [if_neg (by simp [c]), if_neg d]
theorem fitsF_c2 (k b : Int) (s : ByteArray) (lo hi mx : Int) (c : may3 k b s = true) (e : 2 ≤ k ∧ k ≤ 9) (d : ¬ (lo ≤ num k b ∧ num k b ≤ hi)) : fitsF k b s k true lo hi mx = 3 := by
  unfold fitsF; rw [if_neg (by simp [c]), if_pos ⟨rfl, e, d⟩]
section
variable (tk : Int) (sub : Bool) (lo hi mx : Int) (arr : Bool) (fr tz : Int) (bl : ByteArray) (k b : Int) (s : ByteArray) (w : World)
set_option maxHeartbeats 400000 in
theorem Fits_a (h0 : 0 ≤ b) (h1 : b < 18446744073709551616) (hk : 0 ≤ k ∧ k < 256) (hs : s.size ≤ maxLen) (c : may3 k b s = false) :
    Calls Tryz.prog 128 #[T tk sub lo hi mx arr fr tz bl, V k b s] w fun e w' => e = .returned (.int .i64 (fitsF k b s tk sub lo hi mx)) ∧ Below w.heap.size w w' := by
  have R : Hid (8 = fitsF k b s tk sub lo hi mx) := by unfold fitsF; rw [if_pos (.inl c)]; rfl
  go_enter Tryz.func128, Tryz.ntmps128
  go_wp2_with (first | (go_at_call 131; refine (May_of _ _ _ _ h0 h1 hk hs).mono ?_; rintro e w1 ⟨rfl, hb⟩; obtain ⟨hc, hf⟩ := bcell hb))
  go_ret
  exact ⟨ret_int R.out, (((Below.refl _ _).alloc (Nat.le_refl _) _).alloc (by simp) _).trans (hb.mono (by simp; omega))⟩
set_option maxHeartbeats 400000 in
theorem Fits_b (h0 : 0 ≤ b) (h1 : b < 18446744073709551616) (hk : 0 ≤ k ∧ k < 256) (hs : s.size ≤ maxLen) (c : may3 k b s = true) (d : (k != tk) = true) :
    Calls Tryz.prog 128 #[T tk sub lo hi mx arr fr tz bl, V k b s] w fun e w' => e = .returned (.int .i64 (fitsF k b s tk sub lo hi mx)) ∧ Below w.heap.size w w' := by
  have R : Hid (8 = fitsF k b s tk sub lo hi mx) := by unfold fitsF; rw [if_pos (.inr (by simpa using d))]; rfl
  go_enter Tryz.func128, Tryz.ntmps128
  go_wp2_with (first | (go_at_call 131; refine (May_of _ _ _ _ h0 h1 hk hs).mono ?_; rintro e w1 ⟨rfl, hb⟩; obtain ⟨hc, hf⟩ := bcell hb))
  go_ret
  exact ⟨ret_int R.out, (((Below.refl _ _).alloc (Nat.le_refl _) _).alloc (by simp) _).trans (hb.mono (by simp; omega))⟩
set_option maxHeartbeats 1000000 in
theorem Fits_c (h0 : 0 ≤ b) (h1 : b < 18446744073709551616) (hk : 0 ≤ k ∧ k < 256) (hs : s.size ≤ maxLen) (c : may3 k b s = true) :
    Calls Tryz.prog 128 #[T k false lo hi mx arr fr tz bl, V k b s] w fun e w' => e = .returned (.int .i64 (fitsF k b s k false lo hi mx)) ∧ Below w.heap.size w w' := by
  have R : Hid (fitsF k b s k false lo hi mx = if k = 19 ∧ 1 ≤ mx ∧ mx < s.size then 5 else 0) := fitsF_c1 k b s false lo hi mx c (by simp)
  go_enter Tryz.func128, Tryz.ntmps128
  go_wp2_with (first | (go_at_call 131; refine (May_of _ _ _ _ h0 h1 hk hs).mono ?_; rintro e w1 ⟨rfl, hb⟩; obtain ⟨hc, hf⟩ := bcell hb))
  have hz : w.heap.size + 2 ≤ w1.heap.size := by have := hb.size; simp at this; omega
  have z0 : w.heap.size < w1.heap.size := by omega
  have z1 : w.heap.size + 1 < w1.heap.size := by omega
  have HB : Hid (Below w.heap.size w w1) := (((Below.refl _ _).alloc (Nat.le_refl _) _).alloc (by simp) _).trans (hb.mono (by simp; omega))
  clear hf hb hz
  have cx := fun (x : Sub w1) => x.cell
  refine wp_region_sub (by kernel_rfl) (by kernel_rfl) ?_
  repeat (first | go_big_quiet_skip | (go_big_quiet_want; go_big_quiet_op; first | go_big_quiet_on | (refine ⟨_, fun _ => rfl, ?_⟩; go_big_quiet_on) | go_big_quiet_call (fail)))
  refine wpQuiet_nil ?_
  rintro _ ⟨x, rfl⟩
  have HX : Hid (Below w.heap.size w x.w) := HB.out.trans (x.h.mono (by omega))
  unfold maxLen at hs
  go_wp2
  all_goals
    go_ret
    refine ⟨ret_int ?_, HX.out⟩
    first | rw [R.out] | (have e : k = 19 := (by assumption); rw [← e, R.out])
    first | rw [if_pos (by omega)] | rw [if_neg (by omega)]
set_option maxHeartbeats 1000000 in
theorem Fits_d (h0 : 0 ≤ b) (h1 : b < 18446744073709551616) (hk : 0 ≤ k ∧ k < 256) (hs : s.size ≤ maxLen) (c : may3 k b s = true) (i : ¬ (2 ≤ k ∧ k ≤ 9)) :
    Calls Tryz.prog 128 #[T k true lo hi mx arr fr tz bl, V k b s] w fun e w' => e = .returned (.int .i64 (fitsF k b s k true lo hi mx)) ∧ Below w.heap.size w w' := by
  have R : Hid (fitsF k b s k true lo hi mx = if k = 19 ∧ 1 ≤ mx ∧ mx < s.size then 5 else 0) := fitsF_c1 k b s true lo hi mx c (by simp only [true_and]; exact fun h => i h.1)
  have I : Hid (¬ (2 ≤ k ∧ k ≤ 9)) := i
  clear i
  go_enter Tryz.func128, Tryz.ntmps128
  go_wp2_with (first | (go_at_call 131; refine (May_of _ _ _ _ h0 h1 hk hs).mono ?_; rintro e w1 ⟨rfl, hb⟩; obtain ⟨hc, hf⟩ := bcell hb))
  have hz : w.heap.size + 2 ≤ w1.heap.size := by have := hb.size; simp at this; omega
  have z0 : w.heap.size < w1.heap.size := by omega
  have z1 : w.heap.size + 1 < w1.heap.size := by omega
  have HB : Hid (Below w.heap.size w w1) := (((Below.refl _ _).alloc (Nat.le_refl _) _).alloc (by simp) _).trans (hb.mono (by simp; omega))
  clear hf hb hz
  have cx := fun (x : Sub w1) => x.cell
  refine wp_region_sub (by kernel_rfl) (by kernel_rfl) ?_
  repeat (first | go_big_quiet_skip | (go_big_quiet_want; go_big_quiet_op; first | go_big_quiet_on | (refine ⟨_, fun _ => rfl, ?_⟩; go_big_quiet_on) | go_big_quiet_call (first | (go_at_call 138; exact calls_sub_same (isInteger_of _ _ false (by symm; simpa using I.out))))))
  refine wpQuiet_nil ?_
  rintro _ ⟨x, rfl⟩
  have HX : Hid (Below w.heap.size w x.w) := HB.out.trans (x.h.mono (by omega))
  unfold maxLen at hs
  go_wp2
  all_goals
    go_ret
    refine ⟨ret_int ?_, HX.out⟩
    first | rw [R.out] | (have e : k = 19 := (by assumption); rw [← e, R.out])
    first | rw [if_pos (by omega)] | rw [if_neg (by omega)]
set_option maxHeartbeats 1000000 in
theorem Fits_e (h0 : 0 ≤ b) (h1 : b < 18446744073709551616) (hk : 0 ≤ k ∧ k < 256) (hs : s.size ≤ maxLen) (c : may3 k b s = true) (i : 2 ≤ k ∧ k ≤ 9) (g1 : -9223372036854775808 ≤ lo ∧ lo < 9223372036854775808) (g2 : -9223372036854775808 ≤ hi ∧ hi < 9223372036854775808) (n : decide (lo ≤ num k b ∧ num k b ≤ hi) = true) :
    Calls Tryz.prog 128 #[T k true lo hi mx arr fr tz bl, V k b s] w fun e w' => e = .returned (.int .i64 (fitsF k b s k true lo hi mx)) ∧ Below w.heap.size w w' := by
  have R : Hid (fitsF k b s k true lo hi mx = if k = 19 ∧ 1 ≤ mx ∧ mx < s.size then 5 else 0) := fitsF_c1 k b s true lo hi mx c (by simp only [true_and]; exact fun h => h.2 (by simpa using n))
  have I : Hid (2 ≤ k ∧ k ≤ 9) := i
  clear i
  go_enter Tryz.func128, Tryz.ntmps128
  go_wp2_with (first | (go_at_call 131; refine (May_of _ _ _ _ h0 h1 hk hs).mono ?_; rintro e w1 ⟨rfl, hb⟩; obtain ⟨hc, hf⟩ := bcell hb))
  have hz : w.heap.size + 2 ≤ w1.heap.size := by have := hb.size; simp at this; omega
  have z0 : w.heap.size < w1.heap.size := by omega
  have z1 : w.heap.size + 1 < w1.heap.size := by omega
  have HB : Hid (Below w.heap.size w w1) := (((Below.refl _ _).alloc (Nat.le_refl _) _).alloc (by simp) _).trans (hb.mono (by simp; omega))
  clear hf hb hz
  have cx := fun (x : Sub w1) => x.cell
  refine wp_region_sub (by kernel_rfl) (by kernel_rfl) ?_
  repeat (first | go_big_quiet_skip | (go_big_quiet_want; go_big_quiet_op; first | go_big_quiet_on | (refine ⟨_, fun _ => rfl, ?_⟩; go_big_quiet_on) | go_big_quiet_call (first | (go_at_call 138; exact calls_sub_same (isInteger_of _ _ true (by symm; simpa using I.out))) | (go_at_call 140; exact calls_sub (numberOf_of _ _ _ _ h0 h1)) | (go_at_call 139; exact calls_sub (within_of _ _ _ _ g1 g2)))))
  refine wpQuiet_nil ?_
  rintro _ ⟨x, rfl⟩
  have HX : Hid (Below w.heap.size w x.w) := HB.out.trans (x.h.mono (by omega))
  unfold maxLen at hs
  go_wp2
  all_goals
    go_ret
    refine ⟨ret_int ?_, HX.out⟩
    first | rw [R.out] | (have e : k = 19 := (by assumption); rw [← e, R.out])
    first | rw [if_pos (by omega)] | rw [if_neg (by omega)]
set_option maxHeartbeats 1000000 in
theorem Fits_f (h0 : 0 ≤ b) (h1 : b < 18446744073709551616) (hk : 0 ≤ k ∧ k < 256) (hs : s.size ≤ maxLen) (c : may3 k b s = true) (i : 2 ≤ k ∧ k ≤ 9) (g1 : -9223372036854775808 ≤ lo ∧ lo < 9223372036854775808) (g2 : -9223372036854775808 ≤ hi ∧ hi < 9223372036854775808) (n : decide (lo ≤ num k b ∧ num k b ≤ hi) = false) :
    Calls Tryz.prog 128 #[T k true lo hi mx arr fr tz bl, V k b s] w fun e w' => e = .returned (.int .i64 (fitsF k b s k true lo hi mx)) ∧ Below w.heap.size w w' := by
  have R : Hid (3 = fitsF k b s k true lo hi mx) := (fitsF_c2 k b s lo hi mx c i (by simpa using n)).symm
  have I : Hid (2 ≤ k ∧ k ≤ 9) := i
  clear i
  go_enter Tryz.func128, Tryz.ntmps128
  go_wp2_with (first | (go_at_call 131; refine (May_of _ _ _ _ h0 h1 hk hs).mono ?_; rintro e w1 ⟨rfl, hb⟩; obtain ⟨hc, hf⟩ := bcell hb))
  have hz : w.heap.size + 2 ≤ w1.heap.size := by have := hb.size; simp at this; omega
  have z0 : w.heap.size < w1.heap.size := by omega
  have z1 : w.heap.size + 1 < w1.heap.size := by omega
  have HB : Hid (Below w.heap.size w w1) := (((Below.refl _ _).alloc (Nat.le_refl _) _).alloc (by simp) _).trans (hb.mono (by simp; omega))
  clear hf hb hz
  have cx := fun (x : Sub w1) => x.cell
  refine wp_region_sub (by kernel_rfl) (by kernel_rfl) ?_
  repeat (first | go_big_quiet_skip | (go_big_quiet_want; go_big_quiet_op; first | go_big_quiet_on | (refine ⟨_, fun _ => rfl, ?_⟩; go_big_quiet_on) | go_big_quiet_call (first | (go_at_call 138; exact calls_sub_same (isInteger_of _ _ true (by symm; simpa using I.out))) | (go_at_call 140; exact calls_sub (numberOf_of _ _ _ _ h0 h1)) | (go_at_call 139; exact calls_sub (within_of _ _ _ _ g1 g2)))))
  refine wpQuiet_nil ?_
  rintro _ ⟨x, rfl⟩
  have HX : Hid (Below w.heap.size w x.w) := HB.out.trans (x.h.mono (by omega))
  go_wp2
  go_ret
  exact ⟨ret_int R.out, HX.out⟩
theorem Fits_of (h0 : 0 ≤ b) (h1 : b < 18446744073709551616) (hk : 0 ≤ k ∧ k < 256) (hs : s.size ≤ maxLen) (g1 : -9223372036854775808 ≤ lo ∧ lo < 9223372036854775808) (g2 : -9223372036854775808 ≤ hi ∧ hi < 9223372036854775808) :
    Calls Tryz.prog 128 #[T tk sub lo hi mx arr fr tz bl, V k b s] w fun e w' => e = .returned (.int .i64 (fitsF k b s tk sub lo hi mx)) ∧ Below w.heap.size w w' := by
  cases c : may3 k b s
  · exact Fits_a tk sub lo hi mx arr fr tz bl k b s w h0 h1 hk hs c
  by_cases d : k = tk
  · subst d
    cases sub
    · exact Fits_c lo hi mx arr fr tz bl k b s w h0 h1 hk hs c
    by_cases i : 2 ≤ k ∧ k ≤ 9
    · cases n : decide (lo ≤ num k b ∧ num k b ≤ hi)
      · exact Fits_f lo hi mx arr fr tz bl k b s w h0 h1 hk hs c i g1 g2 n
      · exact Fits_e lo hi mx arr fr tz bl k b s w h0 h1 hk hs c i g1 g2 n
    · exact Fits_d lo hi mx arr fr tz bl k b s w h0 h1 hk hs c i
  · exact Fits_b tk sub lo hi mx arr fr tz bl k b s w h0 h1 hk hs c (by simpa using d)
end
end Go.Proofs.YtahgnmbkobiclaaGreat
namespace Go.Proofs.YtahgnmbkobiclaaGreat
set_option linter.unusedVariables false
open Go.RowKit
theorem wf_i64 {n : Int} (h : wfI .i64 n) : -9223372036854775808 ≤ n ∧ n < 9223372036854775808 := by
  have := h
  unfold wfI Lit.wf at this
  simp only [Bool.and_eq_true, decide_eq_true_eq] at this
  have a : (IntKind.i64).min = -9223372036854775808 := by decide
  have b : (IntKind.i64).max = 9223372036854775807 := by decide
  rw [a, b] at this
  omega
theorem wf_u8 {n : Int} (h : wfI .u8 n) : 0 ≤ n ∧ n < 256 := by
  have := h
  unfold wfI Lit.wf at this
  simp only [Bool.and_eq_true, decide_eq_true_eq] at this
  have a : (IntKind.u8).min = 0 := by decide
  have b : (IntKind.u8).max = 255 := by decide
  rw [a, b] at this
  omega
theorem wf_u64 {n : Int} (h : wfI .u64 n) : 0 ≤ n ∧ n < 18446744073709551616 := by
  have := h
  unfold wfI Lit.wf at this
  simp only [Bool.and_eq_true, decide_eq_true_eq] at this
  have a : (IntKind.u64).min = 0 := by decide
  have b : (IntKind.u64).max = 18446744073709551615 := by decide
  rw [a, b] at this
  omega
theorem sh_max {s : ByteArray} (h : shT s) : s.size ≤ maxLen := Nat.le_trans h (by decide)
/-- Does a number lie between two? -/
def inB (a b x : Int) : Bool := decide (a ≤ x) && decide (x ≤ b)
/-- How many bits of an address a kind takes. -/
def wdK (k : Int) : Int := if k = 1 then 1 else if k = 2 ∨ k = 6 ∨ k = 10 then 8 else if k = 3 ∨ k = 7 ∨ k = 11 then 16 else if k = 4 ∨ k = 8 ∨ k = 12 then 32 else if k = 5 ∨ k = 9 ∨ k = 13 then 64 else 0
/-- Is a text empty? -/
def emB (s : ByteArray) : Bool := s.toList.isEmpty
def bdB (c : CeR) : Bool := (if c.sb = true then inB 2 9 c.kd && decide (c.lo ≤ c.hi) else decide (c.lo = 0) && decide (c.hi = 0)) && (if c.kd = 19 then inB 0 254 c.mx else decide (c.mx = 0))
def nwB (k b : Int) (s : ByteArray) : Bool := decide (k = 20) && decide (b = 0) && emB s
def bgB (c : CeR) : Bool := if c.kd = 20 then nwB c.ik c.ib c.is else decide (fitsF c.ik c.ib c.is c.kd c.sb c.lo c.hi c.mx = 0)
/-- An address of a direction, of so many bits. -/
def adB (s : ByteArray) (d n : Int) : Bool := addrB s && decide (dirN (byt s 1) = d) && decide (bitN (byt s 2) = n)
def liB (c : CeR) : Bool := inB 0 2 c.dr && (if emB c.ad = true then decide (c.dr = 0) else adB c.ad c.dr (wdK c.kd) && !c.sb)
/-- May a cell be, others aside? -/
def ceB (c : CeR) : Bool := inB 1 20 c.kd && !(decide (c.kd = 20) && c.kp) && bdB c && bgB c && liB c
/-- May the cell number i be? -/
def ceAt (l : List CeR) (i : Nat) : Bool := match l[i]? with
  | some c => ceB c && (emB c.ad || (l.take i).all (fun x => decide (¬ x.ad = c.ad)))
  | none => true
/-- The spans of an instruction's four fields. -/
def spO (cd rg sl n cs : Int) : (Int × Int) × (Int × Int) × (Int × Int) × (Int × Int) :=
  if cd = 1 ∨ cd = 12 ∨ cd = 14 ∨ cd = 15 then ((0, rg), (0, 0), (0, 0), (0, 0))
  else if cd = 2 then ((0, rg), (0, rg), (0, 0), (0, 0))
  else if cd = 3 ∨ cd = 4 ∨ cd = 7 then ((0, rg), (1, 3), (0, 4096), (0, 0))
  else if cd = 5 ∨ cd = 6 ∨ cd = 8 then ((0, rg), (1, 3), (0, 4096), (0, rg))
  else if cd = 9 then ((0, rg), (0, rg), (0, rg), (1, 14))
  else if cd = 10 then ((0, rg), (0, rg), (0, 0), (15, 16))
  else if cd = 11 then ((0, rg), (0, rg), (0, 0), (1, 19))
  else if cd = 13 then ((0, rg), (0, 0), (0, 16), (0, 255))
  else if cd = 16 then ((0, 0), (0, n), (0, 0), (0, 0))
  else if cd = 17 then ((0, rg), (0, n), (0, 0), (0, 0))
  else if cd = 18 then ((0, 0), (0, cs), (1, 3), (0, 4096))
  else if cd = 19 then ((0, 0), (1, 10), (1, 3), (0, 4096))
  else if cd = 20 then ((1, 10), (0, 0), (0, 0), (0, 0))
  else if cd = 22 ∨ cd = 23 then ((0, rg), (0, sl), (0, 0), (0, 0))
  else ((0, 0), (0, 0), (0, 0), (0, 0))
/-- May an instruction's bounds be? -/
def rcB (o : OpR) : Bool :=
  if o.cd = 5 ∨ o.cd = 6 ∨ o.cd = 8 then decide (o.lo ≤ o.hi) && decide (o.hi - o.lo < 256)
  else if o.cd = 14 then decide (o.lo ≤ o.hi)
  else if o.cd = 15 then decide (o.lo = 0) && inB 0 254 o.hi
  else decide (o.lo = 0) && decide (o.hi = 0)
/-- May an instruction's value be? -/
def hdB (o : OpR) : Bool := if o.cd = 1 then may3 o.vk o.vb o.vs || nwB o.vk o.vb o.vs else decide (o.vk = 0) && decide (o.vb = 0) && emB o.vs
def spB (s : (Int × Int) × (Int × Int) × (Int × Int) × (Int × Int)) (o : OpR) : Bool := inB s.1.1 s.1.2 o.a && inB s.2.1.1 s.2.1.2 o.b && inB s.2.2.1.1 s.2.2.1.2 o.c && inB s.2.2.2.1 s.2.2.2.2 o.d
/-- May an instruction of a code be, beside so many codes? -/
def opB (o : OpR) (rg sl n cs : Int) : Bool := inB 1 23 o.cd && spB (spO o.cd (rg - 1) (sl - 1) (n - 1) (cs - 1)) o && rcB o && hdB o
/-- So many cells from a base on. -/
def ftB (ba sz n : Int) : Bool := decide (0 ≤ ba) && decide (ba ≤ n - sz)
def stB (f : FlR) (n : Int) : Bool := inB 1 3 f.wh && inB 0 4096 f.ce && (decide (f.ba = -1) || (decide (f.wh = 1) && ftB f.ba f.ce n)) && inB 0 8 f.rg && inB 0 1024 f.sl
def enB (f : FlR) : Bool := match f.os.getLast? with
  | some o => decide (o.cd = 16 ∨ o.cd = 20 ∨ o.cd = 21)
  | none => false
def lpB (n : Int) (l : LpR) : Bool := decide (0 ≤ l.hd) && decide (l.hd ≤ l.en) && decide (l.en ≤ n) && inB 0 65536 l.tm
def lsB (f : FlR) : Bool := f.ls.all (lpB f.os.length)
def coB (f : FlR) (n : Int) : Bool := stB f n && enB f && lsB f
/-- The first of so many that is not so. -/
def fstN (f : Nat → Bool) (n : Nat) : Option Nat := (List.range n).find? (fun i => !f i)
theorem fstN_some {f : Nat → Bool} {n k : Nat} (hk : k < n) (h : ∀ j, j < k → f j = true) (hf : f k = false) : fstN f n = some k := by
  unfold fstN
  rw [List.find?_range_eq_some]
  refine ⟨by simp [hf], List.mem_range.2 hk, fun j hj => by simp [h j hj]⟩
theorem fstN_none {f : Nat → Bool} {n : Nat} (h : ∀ j, j < n → f j = true) : fstN f n = none := by
  unfold fstN
  rw [List.find?_range_eq_none]
  exact fun j hj => by simp [h j hj]
/-- How many instructions the first codes have. -/
def totN (l : List FlR) (i : Nat) : Nat := ((l.take (i + 1)).map (fun f => f.os.length)).sum
/-- May the instruction number p of a code be? -/
def opAt (f : FlR) (cs : Int) (p : Nat) : Bool := match f.os[p]? with
  | some o => opB o f.rg f.sl f.os.length cs
  | none => true
/-- What is wrong with the code number i: a place and an error; the error 0: nothing. -/
def flAt (m : ImR) (i : Nat) : Int × Int := match m.fs[i]? with
  | none => (0, 0)
  | some f => if nameB f.nm = false then (0, 6) else if coB f m.cs.length = false then (0, 202) else if 16384 < totN m.fs i ∨ 16384 < f.ls.length then (0, 4)
    else match fstN (opAt f m.fs.length) f.os.length with
    | some p => (p, 202)
    | none => (0, 0)
/-- May the runs of a task be? -/
def runB (m : ImR) (c b : Int) : Bool := decide (0 ≤ c) && decide (c < m.fs.length) && (match m.fs[c.toNat]? with
  | some f => decide (f.wh = 3) && ftB b f.ce m.cs.length
  | none => false)
def trB (m : ImR) (j : JbR) : Bool := (decide (j.sg = -1) || (decide (0 ≤ j.sg) && decide (j.sg < m.cs.length) && (match m.cs[j.sg.toNat]? with
  | some c => decide (c.kd = 1)
  | none => false))) && decide (0 ≤ j.iv) && inB 0 65535 j.pr && inB 0 1048576 j.bd
def rnB (m : ImR) (j : JbR) : Bool := decide (j.cs.length = j.bs.length) && decide (j.cs.length ≤ 32) && (List.range j.cs.length).all (fun i => runB m (j.cs.getD i 0) (j.bs.getD i 0))
/-- What is wrong with the task number i; 0: nothing. -/
def jbAt (m : ImR) (i : Nat) : Int := match m.js[i]? with
  | none => 0
  | some j => if ((m.js.take i).any (fun x => decide (x.nm = j.nm)) || !nameB j.nm) = true then 6 else if (trB m j && rnB m j) = true then 0 else 204
/-- What Check answers: two numbers and an error. -/
def chk (m : ImR) : Int × Int × Int :=
  if nameB m.nm = false then (0, 0, 6) else if 4096 < m.cs.length then (4096, 0, 4) else if 64 < m.fs.length then (64, 0, 4) else if 16 < m.js.length then (16, 0, 4)
  else match fstN (ceAt m.cs) m.cs.length with
  | some i => (i, 0, 203)
  | none => match fstN (fun i => decide ((flAt m i).2 = 0)) m.fs.length with
    | some i => (i, (flAt m i).1, (flAt m i).2)
    | none => match fstN (fun i => decide (jbAt m i = 0)) m.js.length with
      | some i => (i, 0, jbAt m i)
      | none => (0, 0, 0)
end Go.Proofs.YtahgnmbkobiclaaGreat
namespace Go.Proofs.YtahgnmbkobiclaaGreat
set_option linter.unusedVariables false
open Go.RowKit
set_option maxHeartbeats 1000000 in
theorem has_of (a b x : Int) (w : World) : Calls Tryz.prog 101 #[.agg #[.int .i64 a, .int .i64 b], .int .i64 x] w fun e w' => e = .returned (.bool (inB a b x)) ∧ Below w.heap.size w w' := by
  unfold inB
  by_cases c : a ≤ x
  · by_cases d : x ≤ b
    · rw [decide_eq_true c, decide_eq_true d]
      go_enter Tryz.func101, Tryz.ntmps101
      go_wp2
      go_ret
      exact ⟨rfl, by go_grown⟩
    · rw [decide_eq_true c, decide_eq_false d]
      go_enter Tryz.func101, Tryz.ntmps101
      go_wp2
      go_ret
      exact ⟨rfl, by go_grown⟩
  · rw [decide_eq_false c]
    go_enter Tryz.func101, Tryz.ntmps101
    go_wp2
    go_ret
    exact ⟨rfl, by go_grown⟩
set_option maxHeartbeats 1000000 in
theorem below_of (n : Int) (h : -9223372036854775808 < n ∧ n < 9223372036854775808) (w : World) : Calls Tryz.prog 106 #[.int .i64 n] w fun e w' => e = .returned (.agg #[.int .i64 0, .int .i64 (n - 1)]) ∧ Below w.heap.size w w' := by
  have e : wrap64 (n - 1) = n - 1 := by unfold wrap64; omega
  go_enter Tryz.func106, Tryz.ntmps106
  go_wp2
  exact bodyPost_ret (v := .agg #[.int .i64 0, .int .i64 (n - 1)]) (by simp [results, Tryz.results106, go_sem]) rfl ⟨rfl, by go_grown⟩
set_option maxHeartbeats 1000000 in
theorem fits_of (ba sz n : Int) (w : World) (h : 0 ≤ sz ∧ sz ≤ 4096) (hn : 0 ≤ n ∧ n ≤ 4611686018427387904) : Calls Tryz.prog 102 #[.int .i64 ba, .int .i64 sz, .int .i64 n] w fun e w' => e = .returned (.bool (ftB ba sz n)) ∧ w' = w := by
  unfold ftB
  have e : wrap64 (n - sz) = n - sz := by unfold wrap64; omega
  by_cases c : 0 ≤ ba
  · by_cases d : ba ≤ n - sz
    · rw [decide_eq_true c, decide_eq_true d]
      go_enter Tryz.func102, Tryz.ntmps102
      go_wp2
      go_ret
      exact ⟨rfl, rfl⟩
    · rw [decide_eq_true c, decide_eq_false d]
      go_enter Tryz.func102, Tryz.ntmps102
      go_wp2
      go_ret
      exact ⟨rfl, rfl⟩
  · rw [decide_eq_false c]
    go_enter Tryz.func102, Tryz.ntmps102
    go_wp2
    go_ret
    exact ⟨rfl, rfl⟩
set_option maxHeartbeats 1000000 in
theorem isIntI_of (k : Int) (w : World) : Calls Tryz.prog 126 #[.int .u8 k] w fun e w' => e = .returned (.bool (inB 2 9 k)) ∧ w' = w := by
  unfold inB
  by_cases c : 2 ≤ k
  · by_cases d : k ≤ 9
    · rw [decide_eq_true c, decide_eq_true d]
      go_enter Tryz.func126, Tryz.ntmps126
      go_wp2
      go_ret
      exact ⟨rfl, rfl⟩
    · rw [decide_eq_true c, decide_eq_false d]
      go_enter Tryz.func126, Tryz.ntmps126
      go_wp2
      go_ret
      exact ⟨rfl, rfl⟩
  · rw [decide_eq_false c]
    go_enter Tryz.func126, Tryz.ntmps126
    go_wp2
    go_ret
    exact ⟨rfl, rfl⟩
set_option maxHeartbeats 1000000 in
theorem nowhere_of (w : World) : Calls Tryz.prog 127 #[] w fun e w' => e = .returned (.agg #[.int .u8 20, .int .u64 0, .string ⟨#[]⟩]) ∧ Below w.heap.size w w' := by
  go_enter Tryz.func127, Tryz.ntmps127
  go_wp2
  exact bodyPost_ret (v := .agg #[.int .u8 20, .int .u64 0, .string ⟨#[]⟩]) (by simp [results, Tryz.results127, go_sem]) rfl ⟨rfl, by go_grown⟩
theorem kinds20 (k : Int) (h : 1 ≤ k ∧ k ≤ 20) : k = 1 ∨ k = 2 ∨ k = 3 ∨ k = 4 ∨ k = 5 ∨ k = 6 ∨ k = 7 ∨ k = 8 ∨ k = 9 ∨ k = 10 ∨ k = 11 ∨ k = 12 ∨ k = 13 ∨ k = 14 ∨ k = 15 ∨ k = 16 ∨ k = 17 ∨ k = 18 ∨ k = 19 ∨ k = 20 := by omega
set_option maxHeartbeats 4000000 in
theorem widthI_of (k : Int) (h : 1 ≤ k ∧ k ≤ 20) (w : World) : Calls Tryz.prog 130 #[.int .u8 k] w fun e w' => e = .returned (.int .i64 (wdK k)) ∧ w' = w := by
  rcases kinds20 k h with rfl | rfl | rfl | rfl | rfl | rfl | rfl | rfl | rfl | rfl | rfl | rfl | rfl | rfl | rfl | rfl | rfl | rfl | rfl | rfl
  all_goals
    go_enter Tryz.func130, Tryz.ntmps130
    go_wp2
    go_ret
    exact ⟨rfl, rfl⟩
end Go.Proofs.YtahgnmbkobiclaaGreat
namespace Go.Proofs.YtahgnmbkobiclaaGreat
set_option linter.unusedVariables false
open Go.RowKit
def rdLp (bs : List Nat) (s : RS) : LpR × RS := (⟨(rdN bs s).1, (rdN bs (rdN bs s).2).1, (rdN bs (rdN bs (rdN bs s).2).2).1⟩, (rdN bs (rdN bs (rdN bs s).2).2).2)
theorem blk_in' {w : World} {k : Nat} {x : Obj} (h : w.heap[k]? = some x) : k < w.heap.size := by
  rcases Nat.lt_or_ge k w.heap.size with q | q
  · exact q
  · rw [Array.getElem?_eq_none q] at h; cases h
theorem Rd.lt {g kb o c : Nat} {bs : List Nat} {s : RS} {w : World} (h : Rd g kb o c bs s w) : g < w.heap.size := by
  have := h.at_
  unfold RdAt at this
  exact blk_in' this
theorem gb_alloc (w : World) (b : Obj) (r : Option Nat) : w.grownBy (w.alloc b) r := ⟨rfl, rfl, rfl, by rw [← World.alloc_eq]; simp, fun i hi _ => by rw [← World.alloc_eq]; show (w.heap.push b)[i]? = _; rw [Array.getElem?_push, if_neg (Nat.ne_of_lt hi)]⟩
theorem Rd.al {g kb o c : Nat} {bs : List Nat} {s : RS} {w : World} (h : Rd g kb o c bs s w) (b : Obj) : Rd g kb o c bs s (w.alloc b) := h.other (gb_alloc _ _ _) h.lt
theorem gb_setr {w V : World} {g r : Nat} (h : w.grownBy V (some g)) (hr : w.heap.size ≤ r) (j : Nat) (v : Value) : w.grownBy (V.setCell ⟨r, j, none⟩ v) (some g) :=
  ⟨h.os, h.tape, h.output, by simpa using h.size, fun k hk hn => (Below.heap_setCell _ _ _ _ (by show k ≠ r; omega)).trans (h.block k hk hn)⟩
theorem Rd.setr {g kb o c r : Nat} {bs : List Nat} {s : RS} {V : World} (h : Rd g kb o c bs s V) (hr : r ≠ g) (hk : r ≠ kb) (j : Nat) (v : Value) : Rd g kb o c bs s (V.setCell ⟨r, j, none⟩ v) :=
  ⟨by have := h.at_; unfold RdAt at *; rw [Below.heap_setCell _ _ _ _ (fun q => hr q.symm)]; exact this, fun i x hi => by
    have := h.by_ i x hi
    unfold World.cell? at *
    rw [Below.heap_setCell _ _ _ _ (fun q => hk q.symm)]
    exact this, h.le, h.n4, h.nc, h.ne, by simpa using h.kl, h.b8⟩
theorem gb_row {w V : World} {g r : Nat} (h : w.grownBy V (some g)) (hr : w.heap.size ≤ r) (vs : Array Value) : w.grownBy (V.setRow r vs) (some g) :=
  ⟨h.os, h.tape, h.output, by simpa [World.setRow] using h.size, fun k hk hn => (setRow_other _ _ _ _ (by omega)).trans (h.block k hk hn)⟩
theorem Rd.row {g kb o c r : Nat} {bs : List Nat} {s : RS} {V : World} (h : Rd g kb o c bs s V) (hr : r ≠ g) (hk : r ≠ kb) (vs : Array Value) : Rd g kb o c bs s (V.setRow r vs) :=
  ⟨by have := h.at_; unfold RdAt at *; rw [setRow_other _ _ _ _ (fun q => hr q.symm)]; exact this, fun i x hi => by
    have := h.by_ i x hi
    unfold World.cell? at *
    rw [setRow_other _ _ _ _ (fun q => hk q.symm)]
    exact this, h.le, h.n4, h.nc, h.ne, by simpa [World.setRow] using h.kl, h.b8⟩
set_option maxRecDepth 20000 in
set_option maxHeartbeats 8000000 in
theorem loopG (g kb o c : Nat) (bs : List Nat) (s s1 s2 s3 : RS) (v1 : Int) (v2 : Int) (v3 : Int) 
    (C1 : ∀ W, Rd g kb o c bs s W → Calls Tryz.prog 88 #[.pointer (some ⟨g, 0, none⟩)] W fun e w' => e = .returned (.int .i64 v1) ∧ Rd g kb o c bs s1 w' ∧ W.grownBy w' (some g))
    (C2 : ∀ W, Rd g kb o c bs s1 W → Calls Tryz.prog 88 #[.pointer (some ⟨g, 0, none⟩)] W fun e w' => e = .returned (.int .i64 v2) ∧ Rd g kb o c bs s2 w' ∧ W.grownBy w' (some g))
    (C3 : ∀ W, Rd g kb o c bs s2 W → Calls Tryz.prog 88 #[.pointer (some ⟨g, 0, none⟩)] W fun e w' => e = .returned (.int .i64 v3) ∧ Rd g kb o c bs s3 w' ∧ W.grownBy w' (some g))
    (w : World) (h : Rd g kb o c bs s w) :
    Calls Tryz.prog 93 #[.pointer (some ⟨g, 0, none⟩)] w fun e w' => e = .returned (.agg #[.int .i64 v1, .int .i64 v2, .int .i64 v3]) ∧ Rd g kb o c bs s3 w' ∧ w.grownBy w' (some g) := by
  obtain ⟨r, hr⟩ : ∃ r, w.heap.size = r := ⟨_, rfl⟩
  obtain ⟨AW, eW⟩ : ∃ AW, AW = w.alloc (.cells #[.int .i64 0, .int .i64 0, .int .i64 0] 110 (0, 0)) := ⟨_, rfl⟩
  have R0 : Hid (Rd g kb o c bs s AW) := by rw [eW]; exact h.al _
  have G0 : Hid (w.grownBy AW (some g)) := by rw [eW]; exact gb_alloc _ _ _
  have X0 : Hid (AW.heap[r]? = some (.cells #[.int .i64 0, .int .i64 0, .int .i64 0] 110 (0, 0))) := by rw [eW, ← hr]; exact heap_alloc_last _ _
  have NG : Hid (r ≠ g) := by have := h.lt; show r ≠ g; omega
  have RG : Hid (w.heap.size ≤ r) := by show _ ≤ _; omega
  have NK : Hid (r ≠ kb) := by have := h.kl; show r ≠ kb; omega
  have D1 : Hid _ := C1
  have D2 : Hid _ := C2
  have D3 : Hid _ := C3
  clear h C1 C2 C3
  go_enter Tryz.func93, Tryz.ntmps93
  go_upto_region 1 with fail
  rw [← eW]
  try rw [hr]
  clear eW hr
  go_wp2_with (go_at_call 88; refine (D1.out _ R0.out).mono ?_)
  first | (rintro e w1 ⟨he, h1, g1⟩; have he' := he) | (rintro e w1 he h1 g1)
  subst he
  have R1 : Hid (Rd g kb o c bs s1 w1) := h1
  have G1 : Hid (w.grownBy w1 (some g)) := gb_trans G0.out g1
  have X1 : Hid (w1.heap[r]? = some (.cells #[.int .i64 0, .int .i64 0, .int .i64 0] 110 (0, 0))) := (g1.block r (blk_in' X0.out) (by have := NG.out; intro q; cases q; exact this rfl)).trans X0.out
  clear h1 g1 R0 G0 X0 D1
  go_wp2_with (go_at_call 88; refine (D2.out _ R1.out).mono ?_)
  first | (rintro e w2 ⟨he, h1, g1⟩; have he' := he) | (rintro e w2 he h1 g1)
  subst he
  have R2 : Hid (Rd g kb o c bs s2 w2) := h1
  have G2 : Hid (w.grownBy w2 (some g)) := gb_trans G1.out g1
  have X2 : Hid (w2.heap[r]? = some (.cells #[.int .i64 0, .int .i64 0, .int .i64 0] 110 (0, 0))) := (g1.block r (blk_in' X1.out) (by have := NG.out; intro q; cases q; exact this rfl)).trans X1.out
  clear h1 g1 R1 G1 X1 D2
  go_wp2_with (go_at_call 88; refine (D3.out _ R2.out).mono ?_)
  first | (rintro e w3 ⟨he, h1, g1⟩; have he' := he) | (rintro e w3 he h1 g1)
  subst he
  have R3 : Hid (Rd g kb o c bs s3 w3) := h1
  have G3 : Hid (w.grownBy w3 (some g)) := gb_trans G2.out g1
  have X3 : Hid (w3.heap[r]? = some (.cells #[.int .i64 0, .int .i64 0, .int .i64 0] 110 (0, 0))) := (g1.block r (blk_in' X2.out) (by have := NG.out; intro q; cases q; exact this rfl)).trans X2.out
  clear h1 g1 R2 G2 X2 D3
  go_wp2_with (refine wpList_store_row rfl 110 _ _ rfl r _ rfl rfl _ _ X3.out (show (Tryz.prog.info? 110).map (·.size) = some 3 by kernel_rfl) rfl (by kernel_rfl) ?_)
  have hz := setRow_heap w3 r _ (#[.int .i64 v1, .int .i64 v2, .int .i64 v3]) _ _ X3.out
  refine bodyPost_ret (v := .agg #[.int .i64 v1, .int .i64 v2, .int .i64 v3]) (results_cell_row Tryz.results93 _ _ r _ _ (0, 0) _ (by first | rfl | simp [Act.put]) hz Tryz.underlying110 rfl (show (Tryz.prog.info? 110).map (·.size) = some 3 by kernel_rfl)) rfl ?_
  exact ⟨rfl, R3.out.row NG.out NK.out _, gb_row G3.out RG.out _⟩
set_option maxRecDepth 20000 in
set_option maxHeartbeats 8000000 in
theorem valueG (g kb o c : Nat) (bs : List Nat) (s s1 s2 s3 : RS) (v1 : Nat) (v2 : Int) (v3 : ByteArray) (u : Int) (hu : IntKind.u64.wrap v2 = u)
    (C1 : ∀ W, Rd g kb o c bs s W → Calls Tryz.prog 86 #[.pointer (some ⟨g, 0, none⟩)] W fun e w' => e = .returned (.int .u8 v1) ∧ Rd g kb o c bs s1 w' ∧ W.grownBy w' (some g))
    (C2 : ∀ W, Rd g kb o c bs s1 W → Calls Tryz.prog 88 #[.pointer (some ⟨g, 0, none⟩)] W fun e w' => e = .returned (.int .i64 v2) ∧ Rd g kb o c bs s2 w' ∧ W.grownBy w' (some g))
    (C3 : ∀ W, Rd g kb o c bs s2 W → Calls Tryz.prog 43 #[.pointer (some ⟨g, 0, none⟩)] W fun e w' => e = .returned (.string v3) ∧ Rd g kb o c bs s3 w' ∧ W.grownBy w' (some g))
    (w : World) (h : Rd g kb o c bs s w) :
    Calls Tryz.prog 89 #[.pointer (some ⟨g, 0, none⟩)] w fun e w' => e = .returned (.agg #[.int .u8 v1, .int .u64 u, .string v3]) ∧ Rd g kb o c bs s3 w' ∧ w.grownBy w' (some g) := by
  obtain ⟨r, hr⟩ : ∃ r, w.heap.size = r := ⟨_, rfl⟩
  obtain ⟨AW, eW⟩ : ∃ AW, AW = w.alloc (.cells #[.int .u8 0, .int .u64 0, .string ⟨#[]⟩] 48 (0, 0)) := ⟨_, rfl⟩
  have R0 : Hid (Rd g kb o c bs s AW) := by rw [eW]; exact h.al _
  have G0 : Hid (w.grownBy AW (some g)) := by rw [eW]; exact gb_alloc _ _ _
  have X0 : Hid (AW.heap[r]? = some (.cells #[.int .u8 0, .int .u64 0, .string ⟨#[]⟩] 48 (0, 0))) := by rw [eW, ← hr]; exact heap_alloc_last _ _
  have NG : Hid (r ≠ g) := by have := h.lt; show r ≠ g; omega
  have RG : Hid (w.heap.size ≤ r) := by show _ ≤ _; omega
  have NK : Hid (r ≠ kb) := by have := h.kl; show r ≠ kb; omega
  have D1 : Hid _ := C1
  have D2 : Hid _ := C2
  have D3 : Hid _ := C3
  clear h C1 C2 C3
  go_enter Tryz.func89, Tryz.ntmps89
  go_upto_region 1 with fail
  rw [← eW]
  try rw [hr]
  clear eW hr
  go_wp2_with (go_at_call 86; refine (D1.out _ R0.out).mono ?_)
  first | (rintro e w1 ⟨he, h1, g1⟩; have he' := he) | (rintro e w1 he h1 g1)
  subst he
  have R1 : Hid (Rd g kb o c bs s1 w1) := h1
  have G1 : Hid (w.grownBy w1 (some g)) := gb_trans G0.out g1
  have X1 : Hid (w1.heap[r]? = some (.cells #[.int .u8 0, .int .u64 0, .string ⟨#[]⟩] 48 (0, 0))) := (g1.block r (blk_in' X0.out) (by have := NG.out; intro q; cases q; exact this rfl)).trans X0.out
  clear h1 g1 R0 G0 X0 D1
  go_wp2_with (go_at_call 88; refine (D2.out _ R1.out).mono ?_)
  first | (rintro e w2 ⟨he, h1, g1⟩; have he' := he) | (rintro e w2 he h1 g1)
  subst he
  have R2 : Hid (Rd g kb o c bs s2 w2) := h1
  have G2 : Hid (w.grownBy w2 (some g)) := gb_trans G1.out g1
  have X2 : Hid (w2.heap[r]? = some (.cells #[.int .u8 0, .int .u64 0, .string ⟨#[]⟩] 48 (0, 0))) := (g1.block r (blk_in' X1.out) (by have := NG.out; intro q; cases q; exact this rfl)).trans X1.out
  clear h1 g1 R1 G1 X1 D2
  go_wp2_with (go_at_call 43; refine (D3.out _ R2.out).mono ?_)
  first | (rintro e w3 ⟨he, h1, g1⟩; have he' := he) | (rintro e w3 he h1 g1)
  subst he
  have R3 : Hid (Rd g kb o c bs s3 w3) := h1
  have G3 : Hid (w.grownBy w3 (some g)) := gb_trans G2.out g1
  have X3 : Hid (w3.heap[r]? = some (.cells #[.int .u8 0, .int .u64 0, .string ⟨#[]⟩] 48 (0, 0))) := (g1.block r (blk_in' X2.out) (by have := NG.out; intro q; cases q; exact this rfl)).trans X2.out
  clear h1 g1 R2 G2 X2 D3
  go_wp2_with (refine wpList_store_row rfl 48 _ _ rfl r _ rfl rfl _ _ X3.out (show (Tryz.prog.info? 48).map (·.size) = some 3 by kernel_rfl) rfl (by kernel_rfl) ?_)
  have hz := setRow_heap w3 r _ (#[.int .u8 v1, .int .u64 u, .string v3]) _ _ X3.out
  refine bodyPost_ret (v := .agg #[.int .u8 v1, .int .u64 u, .string v3]) (results_cell_row Tryz.results89 _ _ r _ _ (0, 0) _ (by first | rfl | simp [Act.put]) hz Tryz.underlying48 rfl (show (Tryz.prog.info? 48).map (·.size) = some 3 by kernel_rfl)) rfl ?_
  exact ⟨rfl, R3.out.row NG.out NK.out _, gb_row G3.out RG.out _⟩
set_option maxRecDepth 20000 in
set_option maxHeartbeats 8000000 in
theorem opG (g kb o c : Nat) (bs : List Nat) (s s1 s2 s3 s4 s5 s6 s7 s8 : RS) (v1 : Int) (v2 : Int) (v3 : Int) (v4 : Int) (v5 : Int) (v6 : Int) (v7 : Int) (v8 : Nat × Int × ByteArray) 
    (C1 : ∀ W, Rd g kb o c bs s W → Calls Tryz.prog 88 #[.pointer (some ⟨g, 0, none⟩)] W fun e w' => e = .returned (.int .i64 v1) ∧ Rd g kb o c bs s1 w' ∧ W.grownBy w' (some g))
    (C2 : ∀ W, Rd g kb o c bs s1 W → Calls Tryz.prog 88 #[.pointer (some ⟨g, 0, none⟩)] W fun e w' => e = .returned (.int .i64 v2) ∧ Rd g kb o c bs s2 w' ∧ W.grownBy w' (some g))
    (C3 : ∀ W, Rd g kb o c bs s2 W → Calls Tryz.prog 88 #[.pointer (some ⟨g, 0, none⟩)] W fun e w' => e = .returned (.int .i64 v3) ∧ Rd g kb o c bs s3 w' ∧ W.grownBy w' (some g))
    (C4 : ∀ W, Rd g kb o c bs s3 W → Calls Tryz.prog 88 #[.pointer (some ⟨g, 0, none⟩)] W fun e w' => e = .returned (.int .i64 v4) ∧ Rd g kb o c bs s4 w' ∧ W.grownBy w' (some g))
    (C5 : ∀ W, Rd g kb o c bs s4 W → Calls Tryz.prog 88 #[.pointer (some ⟨g, 0, none⟩)] W fun e w' => e = .returned (.int .i64 v5) ∧ Rd g kb o c bs s5 w' ∧ W.grownBy w' (some g))
    (C6 : ∀ W, Rd g kb o c bs s5 W → Calls Tryz.prog 88 #[.pointer (some ⟨g, 0, none⟩)] W fun e w' => e = .returned (.int .i64 v6) ∧ Rd g kb o c bs s6 w' ∧ W.grownBy w' (some g))
    (C7 : ∀ W, Rd g kb o c bs s6 W → Calls Tryz.prog 88 #[.pointer (some ⟨g, 0, none⟩)] W fun e w' => e = .returned (.int .i64 v7) ∧ Rd g kb o c bs s7 w' ∧ W.grownBy w' (some g))
    (C8 : ∀ W, Rd g kb o c bs s7 W → Calls Tryz.prog 89 #[.pointer (some ⟨g, 0, none⟩)] W fun e w' => e = .returned (.agg #[.int .u8 v8.1, .int .u64 v8.2.1, .string v8.2.2]) ∧ Rd g kb o c bs s8 w' ∧ W.grownBy w' (some g))
    (w : World) (h : Rd g kb o c bs s w) :
    Calls Tryz.prog 91 #[.pointer (some ⟨g, 0, none⟩)] w fun e w' => e = .returned (.agg #[.int .i64 v1, .int .i64 v2, .int .i64 v3, .int .i64 v4, .int .i64 v5, .int .i64 v6, .int .i64 v7, .int .u8 v8.1, .int .u64 v8.2.1, .string v8.2.2]) ∧ Rd g kb o c bs s8 w' ∧ w.grownBy w' (some g) := by
  obtain ⟨r, hr⟩ : ∃ r, w.heap.size = r := ⟨_, rfl⟩
  obtain ⟨AW, eW⟩ : ∃ AW, AW = w.alloc (.cells #[.int .i64 0, .int .i64 0, .int .i64 0, .int .i64 0, .int .i64 0, .int .i64 0, .int .i64 0, .int .u8 0, .int .u64 0, .string ⟨#[]⟩] 86 (0, 0)) := ⟨_, rfl⟩
  have R0 : Hid (Rd g kb o c bs s AW) := by rw [eW]; exact h.al _
  have G0 : Hid (w.grownBy AW (some g)) := by rw [eW]; exact gb_alloc _ _ _
  have X0 : Hid (AW.heap[r]? = some (.cells #[.int .i64 0, .int .i64 0, .int .i64 0, .int .i64 0, .int .i64 0, .int .i64 0, .int .i64 0, .int .u8 0, .int .u64 0, .string ⟨#[]⟩] 86 (0, 0))) := by rw [eW, ← hr]; exact heap_alloc_last _ _
  have NG : Hid (r ≠ g) := by have := h.lt; show r ≠ g; omega
  have RG : Hid (w.heap.size ≤ r) := by show _ ≤ _; omega
  have NK : Hid (r ≠ kb) := by have := h.kl; show r ≠ kb; omega
  have D1 : Hid _ := C1
  have D2 : Hid _ := C2
  have D3 : Hid _ := C3
  have D4 : Hid _ := C4
  have D5 : Hid _ := C5
  have D6 : Hid _ := C6
  have D7 : Hid _ := C7
  have D8 : Hid _ := C8
  clear h C1 C2 C3 C4 C5 C6 C7 C8
  go_enter Tryz.func91, Tryz.ntmps91
  go_upto_region 1 with fail
  rw [← eW]
  try rw [hr]
  clear eW hr
  go_wp2_with (go_at_call 88; refine (D1.out _ R0.out).mono ?_)
  first | (rintro e w1 ⟨he, h1, g1⟩; have he' := he) | (rintro e w1 he h1 g1)
  subst he
  have R1 : Hid (Rd g kb o c bs s1 w1) := h1
  have G1 : Hid (w.grownBy w1 (some g)) := gb_trans G0.out g1
  have X1 : Hid (w1.heap[r]? = some (.cells #[.int .i64 0, .int .i64 0, .int .i64 0, .int .i64 0, .int .i64 0, .int .i64 0, .int .i64 0, .int .u8 0, .int .u64 0, .string ⟨#[]⟩] 86 (0, 0))) := (g1.block r (blk_in' X0.out) (by have := NG.out; intro q; cases q; exact this rfl)).trans X0.out
  clear h1 g1 R0 G0 X0 D1
  go_wp2_with (go_at_call 88; refine (D2.out _ R1.out).mono ?_)
  first | (rintro e w2 ⟨he, h1, g1⟩; have he' := he) | (rintro e w2 he h1 g1)
  subst he
  have R2 : Hid (Rd g kb o c bs s2 w2) := h1
  have G2 : Hid (w.grownBy w2 (some g)) := gb_trans G1.out g1
  have X2 : Hid (w2.heap[r]? = some (.cells #[.int .i64 0, .int .i64 0, .int .i64 0, .int .i64 0, .int .i64 0, .int .i64 0, .int .i64 0, .int .u8 0, .int .u64 0, .string ⟨#[]⟩] 86 (0, 0))) := (g1.block r (blk_in' X1.out) (by have := NG.out; intro q; cases q; exact this rfl)).trans X1.out
  clear h1 g1 R1 G1 X1 D2
  go_wp2_with (go_at_call 88; refine (D3.out _ R2.out).mono ?_)
  first | (rintro e w3 ⟨he, h1, g1⟩; have he' := he) | (rintro e w3 he h1 g1)
  subst he
  have R3 : Hid (Rd g kb o c bs s3 w3) := h1
  have G3 : Hid (w.grownBy w3 (some g)) := gb_trans G2.out g1
  have X3 : Hid (w3.heap[r]? = some (.cells #[.int .i64 0, .int .i64 0, .int .i64 0, .int .i64 0, .int .i64 0, .int .i64 0, .int .i64 0, .int .u8 0, .int .u64 0, .string ⟨#[]⟩] 86 (0, 0))) := (g1.block r (blk_in' X2.out) (by have := NG.out; intro q; cases q; exact this rfl)).trans X2.out
  clear h1 g1 R2 G2 X2 D3
  go_wp2_with (go_at_call 88; refine (D4.out _ R3.out).mono ?_)
  first | (rintro e w4 ⟨he, h1, g1⟩; have he' := he) | (rintro e w4 he h1 g1)
  subst he
  have R4 : Hid (Rd g kb o c bs s4 w4) := h1
  have G4 : Hid (w.grownBy w4 (some g)) := gb_trans G3.out g1
  have X4 : Hid (w4.heap[r]? = some (.cells #[.int .i64 0, .int .i64 0, .int .i64 0, .int .i64 0, .int .i64 0, .int .i64 0, .int .i64 0, .int .u8 0, .int .u64 0, .string ⟨#[]⟩] 86 (0, 0))) := (g1.block r (blk_in' X3.out) (by have := NG.out; intro q; cases q; exact this rfl)).trans X3.out
  clear h1 g1 R3 G3 X3 D4
  go_wp2_with (go_at_call 88; refine (D5.out _ R4.out).mono ?_)
  first | (rintro e w5 ⟨he, h1, g1⟩; have he' := he) | (rintro e w5 he h1 g1)
  subst he
  have R5 : Hid (Rd g kb o c bs s5 w5) := h1
  have G5 : Hid (w.grownBy w5 (some g)) := gb_trans G4.out g1
  have X5 : Hid (w5.heap[r]? = some (.cells #[.int .i64 0, .int .i64 0, .int .i64 0, .int .i64 0, .int .i64 0, .int .i64 0, .int .i64 0, .int .u8 0, .int .u64 0, .string ⟨#[]⟩] 86 (0, 0))) := (g1.block r (blk_in' X4.out) (by have := NG.out; intro q; cases q; exact this rfl)).trans X4.out
  clear h1 g1 R4 G4 X4 D5
  go_wp2_with (go_at_call 88; refine (D6.out _ R5.out).mono ?_)
  first | (rintro e w6 ⟨he, h1, g1⟩; have he' := he) | (rintro e w6 he h1 g1)
  subst he
  have R6 : Hid (Rd g kb o c bs s6 w6) := h1
  have G6 : Hid (w.grownBy w6 (some g)) := gb_trans G5.out g1
  have X6 : Hid (w6.heap[r]? = some (.cells #[.int .i64 0, .int .i64 0, .int .i64 0, .int .i64 0, .int .i64 0, .int .i64 0, .int .i64 0, .int .u8 0, .int .u64 0, .string ⟨#[]⟩] 86 (0, 0))) := (g1.block r (blk_in' X5.out) (by have := NG.out; intro q; cases q; exact this rfl)).trans X5.out
  clear h1 g1 R5 G5 X5 D6
  go_wp2_with (go_at_call 88; refine (D7.out _ R6.out).mono ?_)
  first | (rintro e w7 ⟨he, h1, g1⟩; have he' := he) | (rintro e w7 he h1 g1)
  subst he
  have R7 : Hid (Rd g kb o c bs s7 w7) := h1
  have G7 : Hid (w.grownBy w7 (some g)) := gb_trans G6.out g1
  have X7 : Hid (w7.heap[r]? = some (.cells #[.int .i64 0, .int .i64 0, .int .i64 0, .int .i64 0, .int .i64 0, .int .i64 0, .int .i64 0, .int .u8 0, .int .u64 0, .string ⟨#[]⟩] 86 (0, 0))) := (g1.block r (blk_in' X6.out) (by have := NG.out; intro q; cases q; exact this rfl)).trans X6.out
  clear h1 g1 R6 G6 X6 D7
  go_wp2_with (go_at_call 89; refine (D8.out _ R7.out).mono ?_)
  first | (rintro e w8 ⟨he, h1, g1⟩; have he' := he) | (rintro e w8 he h1 g1)
  subst he
  have R8 : Hid (Rd g kb o c bs s8 w8) := h1
  have G8 : Hid (w.grownBy w8 (some g)) := gb_trans G7.out g1
  have X8 : Hid (w8.heap[r]? = some (.cells #[.int .i64 0, .int .i64 0, .int .i64 0, .int .i64 0, .int .i64 0, .int .i64 0, .int .i64 0, .int .u8 0, .int .u64 0, .string ⟨#[]⟩] 86 (0, 0))) := (g1.block r (blk_in' X7.out) (by have := NG.out; intro q; cases q; exact this rfl)).trans X7.out
  clear h1 g1 R7 G7 X7 D8
  go_wp2_with (refine wpList_store_row rfl 86 _ _ rfl r _ rfl rfl _ _ X8.out (show (Tryz.prog.info? 86).map (·.size) = some 10 by kernel_rfl) rfl (by kernel_rfl) ?_)
  have hz := setRow_heap w8 r _ (#[.int .i64 v1, .int .i64 v2, .int .i64 v3, .int .i64 v4, .int .i64 v5, .int .i64 v6, .int .i64 v7, .int .u8 v8.1, .int .u64 v8.2.1, .string v8.2.2]) _ _ X8.out
  refine bodyPost_ret (v := .agg #[.int .i64 v1, .int .i64 v2, .int .i64 v3, .int .i64 v4, .int .i64 v5, .int .i64 v6, .int .i64 v7, .int .u8 v8.1, .int .u64 v8.2.1, .string v8.2.2]) (results_cell_row Tryz.results91 _ _ r _ _ (0, 0) _ (by first | rfl | simp [Act.put]) hz Tryz.underlying86 rfl (show (Tryz.prog.info? 86).map (·.size) = some 10 by kernel_rfl)) rfl ?_
  exact ⟨rfl, R8.out.row NG.out NK.out _, gb_row G8.out RG.out _⟩
set_option maxRecDepth 20000 in
set_option maxHeartbeats 8000000 in
theorem cellG (g kb o c : Nat) (bs : List Nat) (s s1 s2 s3 s4 s5 s6 s7 s8 s9 : RS) (v1 : Nat) (v2 : Bool) (v3 : Int) (v4 : Int) (v5 : Int) (v6 : Nat × Int × ByteArray) (v7 : Bool) (v8 : Nat) (v9 : ByteArray) (h8 : wrap64 (v8 : Int) = (v8 : Int))
    (C1 : ∀ W, Rd g kb o c bs s W → Calls Tryz.prog 86 #[.pointer (some ⟨g, 0, none⟩)] W fun e w' => e = .returned (.int .u8 v1) ∧ Rd g kb o c bs s1 w' ∧ W.grownBy w' (some g))
    (C2 : ∀ W, Rd g kb o c bs s1 W → Calls Tryz.prog 87 #[.pointer (some ⟨g, 0, none⟩)] W fun e w' => e = .returned (.bool v2) ∧ Rd g kb o c bs s2 w' ∧ W.grownBy w' (some g))
    (C3 : ∀ W, Rd g kb o c bs s2 W → Calls Tryz.prog 88 #[.pointer (some ⟨g, 0, none⟩)] W fun e w' => e = .returned (.int .i64 v3) ∧ Rd g kb o c bs s3 w' ∧ W.grownBy w' (some g))
    (C4 : ∀ W, Rd g kb o c bs s3 W → Calls Tryz.prog 88 #[.pointer (some ⟨g, 0, none⟩)] W fun e w' => e = .returned (.int .i64 v4) ∧ Rd g kb o c bs s4 w' ∧ W.grownBy w' (some g))
    (C5 : ∀ W, Rd g kb o c bs s4 W → Calls Tryz.prog 88 #[.pointer (some ⟨g, 0, none⟩)] W fun e w' => e = .returned (.int .i64 v5) ∧ Rd g kb o c bs s5 w' ∧ W.grownBy w' (some g))
    (C6 : ∀ W, Rd g kb o c bs s5 W → Calls Tryz.prog 89 #[.pointer (some ⟨g, 0, none⟩)] W fun e w' => e = .returned (.agg #[.int .u8 v6.1, .int .u64 v6.2.1, .string v6.2.2]) ∧ Rd g kb o c bs s6 w' ∧ W.grownBy w' (some g))
    (C7 : ∀ W, Rd g kb o c bs s6 W → Calls Tryz.prog 87 #[.pointer (some ⟨g, 0, none⟩)] W fun e w' => e = .returned (.bool v7) ∧ Rd g kb o c bs s7 w' ∧ W.grownBy w' (some g))
    (C8 : ∀ W, Rd g kb o c bs s7 W → Calls Tryz.prog 86 #[.pointer (some ⟨g, 0, none⟩)] W fun e w' => e = .returned (.int .u8 v8) ∧ Rd g kb o c bs s8 w' ∧ W.grownBy w' (some g))
    (C9 : ∀ W, Rd g kb o c bs s8 W → Calls Tryz.prog 43 #[.pointer (some ⟨g, 0, none⟩)] W fun e w' => e = .returned (.string v9) ∧ Rd g kb o c bs s9 w' ∧ W.grownBy w' (some g))
    (w : World) (h : Rd g kb o c bs s w) :
    Calls Tryz.prog 45 #[.pointer (some ⟨g, 0, none⟩)] w fun e w' => e = .returned (.agg #[.int .u8 v1, .bool v2, .int .i64 v3, .int .i64 v4, .int .i64 v5, .int .u8 v6.1, .int .u64 v6.2.1, .string v6.2.2, .bool v7, .int .i64 v8, .string v9]) ∧ Rd g kb o c bs s9 w' ∧ w.grownBy w' (some g) := by
  obtain ⟨r, hr⟩ : ∃ r, w.heap.size = r := ⟨_, rfl⟩
  obtain ⟨AW, eW⟩ : ∃ AW, AW = w.alloc (.cells #[.int .u8 0, .bool false, .int .i64 0, .int .i64 0, .int .i64 0, .int .u8 0, .int .u64 0, .string ⟨#[]⟩, .bool false, .int .i64 0, .string ⟨#[]⟩] 50 (0, 0)) := ⟨_, rfl⟩
  have R0 : Hid (Rd g kb o c bs s AW) := by rw [eW]; exact h.al _
  have G0 : Hid (w.grownBy AW (some g)) := by rw [eW]; exact gb_alloc _ _ _
  have X0 : Hid (AW.heap[r]? = some (.cells #[.int .u8 0, .bool false, .int .i64 0, .int .i64 0, .int .i64 0, .int .u8 0, .int .u64 0, .string ⟨#[]⟩, .bool false, .int .i64 0, .string ⟨#[]⟩] 50 (0, 0))) := by rw [eW, ← hr]; exact heap_alloc_last _ _
  have NG : Hid (r ≠ g) := by have := h.lt; show r ≠ g; omega
  have RG : Hid (w.heap.size ≤ r) := by show _ ≤ _; omega
  have NK : Hid (r ≠ kb) := by have := h.kl; show r ≠ kb; omega
  have D1 : Hid _ := C1
  have D2 : Hid _ := C2
  have D3 : Hid _ := C3
  have D4 : Hid _ := C4
  have D5 : Hid _ := C5
  have D6 : Hid _ := C6
  have D7 : Hid _ := C7
  have D8 : Hid _ := C8
  have D9 : Hid _ := C9
  clear h C1 C2 C3 C4 C5 C6 C7 C8 C9
  go_enter Tryz.func45, Tryz.ntmps45
  go_upto_region 1 with fail
  rw [← eW]
  try rw [hr]
  clear eW hr
  go_wp2_with (go_at_call 86; refine (D1.out _ R0.out).mono ?_)
  first | (rintro e w1 ⟨he, h1, g1⟩; have he' := he) | (rintro e w1 he h1 g1)
  subst he
  have R1 : Hid (Rd g kb o c bs s1 w1) := h1
  have G1 : Hid (w.grownBy w1 (some g)) := gb_trans G0.out g1
  have X1 : Hid (w1.heap[r]? = some (.cells #[.int .u8 0, .bool false, .int .i64 0, .int .i64 0, .int .i64 0, .int .u8 0, .int .u64 0, .string ⟨#[]⟩, .bool false, .int .i64 0, .string ⟨#[]⟩] 50 (0, 0))) := (g1.block r (blk_in' X0.out) (by have := NG.out; intro q; cases q; exact this rfl)).trans X0.out
  clear h1 g1 R0 G0 X0 D1
  go_wp2_with (go_at_call 87; refine (D2.out _ R1.out).mono ?_)
  first | (rintro e w2 ⟨he, h1, g1⟩; have he' := he) | (rintro e w2 he h1 g1)
  subst he
  have R2 : Hid (Rd g kb o c bs s2 w2) := h1
  have G2 : Hid (w.grownBy w2 (some g)) := gb_trans G1.out g1
  have X2 : Hid (w2.heap[r]? = some (.cells #[.int .u8 0, .bool false, .int .i64 0, .int .i64 0, .int .i64 0, .int .u8 0, .int .u64 0, .string ⟨#[]⟩, .bool false, .int .i64 0, .string ⟨#[]⟩] 50 (0, 0))) := (g1.block r (blk_in' X1.out) (by have := NG.out; intro q; cases q; exact this rfl)).trans X1.out
  clear h1 g1 R1 G1 X1 D2
  go_wp2_with (go_at_call 88; refine (D3.out _ R2.out).mono ?_)
  first | (rintro e w3 ⟨he, h1, g1⟩; have he' := he) | (rintro e w3 he h1 g1)
  subst he
  have R3 : Hid (Rd g kb o c bs s3 w3) := h1
  have G3 : Hid (w.grownBy w3 (some g)) := gb_trans G2.out g1
  have X3 : Hid (w3.heap[r]? = some (.cells #[.int .u8 0, .bool false, .int .i64 0, .int .i64 0, .int .i64 0, .int .u8 0, .int .u64 0, .string ⟨#[]⟩, .bool false, .int .i64 0, .string ⟨#[]⟩] 50 (0, 0))) := (g1.block r (blk_in' X2.out) (by have := NG.out; intro q; cases q; exact this rfl)).trans X2.out
  clear h1 g1 R2 G2 X2 D3
  go_wp2_with (go_at_call 88; refine (D4.out _ R3.out).mono ?_)
  first | (rintro e w4 ⟨he, h1, g1⟩; have he' := he) | (rintro e w4 he h1 g1)
  subst he
  have R4 : Hid (Rd g kb o c bs s4 w4) := h1
  have G4 : Hid (w.grownBy w4 (some g)) := gb_trans G3.out g1
  have X4 : Hid (w4.heap[r]? = some (.cells #[.int .u8 0, .bool false, .int .i64 0, .int .i64 0, .int .i64 0, .int .u8 0, .int .u64 0, .string ⟨#[]⟩, .bool false, .int .i64 0, .string ⟨#[]⟩] 50 (0, 0))) := (g1.block r (blk_in' X3.out) (by have := NG.out; intro q; cases q; exact this rfl)).trans X3.out
  clear h1 g1 R3 G3 X3 D4
  go_wp2_with (go_at_call 88; refine (D5.out _ R4.out).mono ?_)
  first | (rintro e w5 ⟨he, h1, g1⟩; have he' := he) | (rintro e w5 he h1 g1)
  subst he
  have R5 : Hid (Rd g kb o c bs s5 w5) := h1
  have G5 : Hid (w.grownBy w5 (some g)) := gb_trans G4.out g1
  have X5 : Hid (w5.heap[r]? = some (.cells #[.int .u8 0, .bool false, .int .i64 0, .int .i64 0, .int .i64 0, .int .u8 0, .int .u64 0, .string ⟨#[]⟩, .bool false, .int .i64 0, .string ⟨#[]⟩] 50 (0, 0))) := (g1.block r (blk_in' X4.out) (by have := NG.out; intro q; cases q; exact this rfl)).trans X4.out
  clear h1 g1 R4 G4 X4 D5
  go_wp2_with (go_at_call 89; refine (D6.out _ R5.out).mono ?_)
  first | (rintro e w6 ⟨he, h1, g1⟩; have he' := he) | (rintro e w6 he h1 g1)
  subst he
  have R6 : Hid (Rd g kb o c bs s6 w6) := h1
  have G6 : Hid (w.grownBy w6 (some g)) := gb_trans G5.out g1
  have X6 : Hid (w6.heap[r]? = some (.cells #[.int .u8 0, .bool false, .int .i64 0, .int .i64 0, .int .i64 0, .int .u8 0, .int .u64 0, .string ⟨#[]⟩, .bool false, .int .i64 0, .string ⟨#[]⟩] 50 (0, 0))) := (g1.block r (blk_in' X5.out) (by have := NG.out; intro q; cases q; exact this rfl)).trans X5.out
  clear h1 g1 R5 G5 X5 D6
  go_wp2_with (go_at_call 87; refine (D7.out _ R6.out).mono ?_)
  first | (rintro e w7 ⟨he, h1, g1⟩; have he' := he) | (rintro e w7 he h1 g1)
  subst he
  have R7 : Hid (Rd g kb o c bs s7 w7) := h1
  have G7 : Hid (w.grownBy w7 (some g)) := gb_trans G6.out g1
  have X7 : Hid (w7.heap[r]? = some (.cells #[.int .u8 0, .bool false, .int .i64 0, .int .i64 0, .int .i64 0, .int .u8 0, .int .u64 0, .string ⟨#[]⟩, .bool false, .int .i64 0, .string ⟨#[]⟩] 50 (0, 0))) := (g1.block r (blk_in' X6.out) (by have := NG.out; intro q; cases q; exact this rfl)).trans X6.out
  clear h1 g1 R6 G6 X6 D7
  go_wp2_with (go_at_call 86; refine (D8.out _ R7.out).mono ?_)
  first | (rintro e w8 ⟨he, h1, g1⟩; have he' := he) | (rintro e w8 he h1 g1)
  subst he
  have R8 : Hid (Rd g kb o c bs s8 w8) := h1
  have G8 : Hid (w.grownBy w8 (some g)) := gb_trans G7.out g1
  have X8 : Hid (w8.heap[r]? = some (.cells #[.int .u8 0, .bool false, .int .i64 0, .int .i64 0, .int .i64 0, .int .u8 0, .int .u64 0, .string ⟨#[]⟩, .bool false, .int .i64 0, .string ⟨#[]⟩] 50 (0, 0))) := (g1.block r (blk_in' X7.out) (by have := NG.out; intro q; cases q; exact this rfl)).trans X7.out
  clear h1 g1 R7 G7 X7 D8
  go_wp2_with (go_at_call 43; refine (D9.out _ R8.out).mono ?_)
  first | (rintro e w9 ⟨he, h1, g1⟩; have he' := he) | (rintro e w9 he h1 g1)
  subst he
  have R9 : Hid (Rd g kb o c bs s9 w9) := h1
  have G9 : Hid (w.grownBy w9 (some g)) := gb_trans G8.out g1
  have X9 : Hid (w9.heap[r]? = some (.cells #[.int .u8 0, .bool false, .int .i64 0, .int .i64 0, .int .i64 0, .int .u8 0, .int .u64 0, .string ⟨#[]⟩, .bool false, .int .i64 0, .string ⟨#[]⟩] 50 (0, 0))) := (g1.block r (blk_in' X8.out) (by have := NG.out; intro q; cases q; exact this rfl)).trans X8.out
  clear h1 g1 R8 G8 X8 D9
  go_wp2_with (refine wpList_store_row rfl 50 _ _ rfl r _ rfl rfl _ _ X9.out (show (Tryz.prog.info? 50).map (·.size) = some 11 by kernel_rfl) rfl (by kernel_rfl) ?_)
  have hz := setRow_heap w9 r _ (#[.int .u8 v1, .bool v2, .int .i64 v3, .int .i64 v4, .int .i64 v5, .int .u8 v6.1, .int .u64 v6.2.1, .string v6.2.2, .bool v7, .int .i64 v8, .string v9]) _ _ X9.out
  refine bodyPost_ret (v := .agg #[.int .u8 v1, .bool v2, .int .i64 v3, .int .i64 v4, .int .i64 v5, .int .u8 v6.1, .int .u64 v6.2.1, .string v6.2.2, .bool v7, .int .i64 v8, .string v9]) (results_cell_row Tryz.results45 _ _ r _ _ (0, 0) _ (by first | rfl | simp [Act.put]) hz Tryz.underlying50 rfl (show (Tryz.prog.info? 50).map (·.size) = some 11 by kernel_rfl)) rfl ?_
  exact ⟨rfl, R9.out.row NG.out NK.out _, gb_row G9.out RG.out _⟩
end Go.Proofs.YtahgnmbkobiclaaGreat
namespace Go.Proofs.YtahgnmbkobiclaaGreat
set_option linter.unusedVariables false
open Go.RowKit
/-- What so many readings read, up to the first fault. -/
def rdKL {α : Type} (rd : RS → α × RS) : Nat → RS → List α
  | 0, _ => []
  | k + 1, s => if s.y = 0 then (rd s).1 :: rdKL rd k (rd s).2 else []
/-- Where they end. -/
def rdKS {α : Type} (rd : RS → α × RS) : Nat → RS → RS
  | 0, s => s
  | k + 1, s => if s.y = 0 then rdKS rd k (rd s).2 else s
theorem rdKL_bad {α : Type} (rd : RS → α × RS) (k : Nat) {s : RS} (h : s.y ≠ 0) : rdKL rd k s = [] := by
  cases k with
  | zero => rfl
  | succ k => show (if s.y = 0 then _ else _) = _; rw [if_neg h]
theorem rdKS_bad {α : Type} (rd : RS → α × RS) (k : Nat) {s : RS} (h : s.y ≠ 0) : rdKS rd k s = s := by
  cases k with
  | zero => rfl
  | succ k => show (if s.y = 0 then _ else _) = _; rw [if_neg h]
theorem rdKL_len {α : Type} (rd : RS → α × RS) : ∀ (k : Nat) (s : RS), (rdKL rd k s).length ≤ k
  | 0, _ => Nat.le_refl _
  | k + 1, s => by
    show (if s.y = 0 then (rd s).1 :: rdKL rd k (rd s).2 else []).length ≤ _
    split
    · rw [List.length_cons]; exact Nat.succ_le_succ (rdKL_len rd k _)
    · exact Nat.zero_le _
/-- A list with its length ahead. -/
def rdL {α : Type} (rd : RS → α × RS) (bs : List Nat) (s : RS) : List α × RS := (rdKL rd (rdC bs s).1.toNat (rdC bs s).2, rdKS rd (rdC bs s).1.toNat (rdC bs s).2)
/-- Behind k readings of N. -/
def LsI {α : Type} (rd : RS → α × RS) (N : Nat) (s0 : RS) (k : Nat) (s : RS) : Prop :=
  k ≤ N ∧ (rdKL rd N s0).drop k = rdKL rd (N - k) s ∧ k ≤ (rdKL rd N s0).length ∧ rdKS rd N s0 = rdKS rd (N - k) s ∧ (s0.y = 0 ∨ s = s0)
section
variable {α : Type} {rd : RS → α × RS} {N k : Nat} {s0 s : RS}
theorem LsI.zero : LsI rd N s0 0 s0 := ⟨Nat.zero_le _, rfl, Nat.zero_le _, rfl, Or.inr rfl⟩
theorem LsI.ok (h : LsI rd N s0 k s) (hy : s.y = 0) : s0.y = 0 := by
  rcases h.2.2.2.2 with q | q
  · exact q
  · rw [← q]; exact hy
theorem LsI.get (h : LsI rd N s0 k s) (hk : k < N) (hy : s.y = 0) : (rdKL rd N s0)[k]? = some (rd s).1 := by
  obtain ⟨h1, h2, h3, h4, h5⟩ := h
  have e : (rdKL rd N s0)[k]? = ((rdKL rd N s0).drop k)[0]? := by rw [List.getElem?_drop, Nat.add_zero]
  rw [e, h2]
  obtain ⟨m, hm⟩ : ∃ m, N - k = m + 1 := ⟨N - k - 1, by omega⟩
  rw [hm]
  show (if s.y = 0 then _ else _)[0]? = _
  rw [if_pos hy]
  rfl
theorem LsI.next (h : LsI rd N s0 k s) (hk : k < N) (hy : s.y = 0) : LsI rd N s0 (k + 1) (rd s).2 := by
  have g := h.get hk hy
  have o := h.ok hy
  obtain ⟨h1, h2, h3, h4, h5⟩ := h
  obtain ⟨m, hm⟩ : ∃ m, N - k = m + 1 := ⟨N - k - 1, by omega⟩
  have hm' : N - (k + 1) = m := by omega
  refine ⟨hk, ?_, (List.getElem?_eq_some_iff.1 g).1, ?_, Or.inl o⟩
  · rw [← List.drop_drop, h2, hm, hm']
    show (if s.y = 0 then (rd s).1 :: rdKL rd m (rd s).2 else []).drop 1 = _
    rw [if_pos hy]
    rfl
  · rw [h4, hm, hm']
    show (if s.y = 0 then rdKS rd m (rd s).2 else s) = _
    rw [if_pos hy]
theorem LsI.last (h : LsI rd N s0 k s) (hk : k = N ∨ s.y ≠ 0) : (rdKL rd N s0).length = k ∧ rdKS rd N s0 = s := by
  obtain ⟨h1, h2, h3, h4, h5⟩ := h
  have e : rdKL rd (N - k) s = [] ∧ rdKS rd (N - k) s = s := by
    rcases hk with q | q
    · subst q; rw [Nat.sub_self]; exact ⟨rfl, rfl⟩
    · exact ⟨rdKL_bad rd _ q, rdKS_bad rd _ q⟩
  refine ⟨?_, h4.trans e.2⟩
  have := congrArg List.length (h2.trans e.1)
  rw [List.length_drop, List.length_nil] at this
  omega
end
section
variable {α : Type} {T : TypeId} {n base k g : Nat} {P : (Nat → Prop) → World → α → List Value → Prop} {l : List α} {out out' : Value} {wr W w7 : World}
theorem MkI.stepG (K : Kept P) (hgb : g < base) {vss : List (List Value)} (el : vss.length = k) (hn : ∀ v ∈ vss, v.length = n)
    (hf : ∀ (i : Nat) vs e, vss[i]? = some vs → l[i]? = some e → P (fun b => Fresh base wr.heap.size b ∧ out.ownBlock ≠ some b) wr e vs)
    (hlt : ∀ g, out.ownBlock = some g → base ≤ g ∧ g < wr.heap.size)
    (vs : List Value) (e : α) (he : l[k]? = some e) (hvn : vs.length = n) (s0 : base ≤ wr.heap.size) (b5 : wr.grownBy W (some g))
    (hv : P (Fresh wr.heap.size W.heap.size) W e vs) (hg : W.grownBy w7 out.ownBlock)
    (ho : w7.ownsRow base T n out' (k + 1) (vss.flatten ++ vs)) (hb : out'.ownBlock = out.ownBlock ∨ out'.ownBlock = some W.heap.size) : MkI T n P base l (k + 1) out' w7 := by
  have s5 := b5.size
  have s7 := hg.size
  have ne : ∀ b, b < W.heap.size → out.ownBlock ≠ some b → out'.ownBlock ≠ some b := fun b h1 h2 h3 => by
    rcases hb with q | q
    · exact h2 (q ▸ h3)
    · rw [q] at h3; simp at h3; omega
  refine ⟨vss ++ [vs], by simp [el], fun v hv => ?_, by rw [List.flatten_append]; simpa using ho, fun i t' e' ht hl => ?_⟩
  · rcases List.mem_append.1 hv with q | q
    · exact hn v q
    · rw [List.mem_singleton.1 q]; exact hvn
  by_cases hi : i < k
  · rw [List.getElem?_append_left (by omega)] at ht
    have h := hf i t' e' ht hl
    refine K.sub (fun b hb => ⟨⟨hb.1.1, by have := hb.1.2; omega⟩, ne b (by have := hb.1.2; omega) hb.2⟩) (K.fr (w' := w7) h fun q hq => ?_)
    have q1 := hq.1.1
    have q2 := hq.1.2
    refine World.cell?_of_block ?_
    exact (hg.block _ (by omega) (fun h => hq.2 h.symm)).trans (b5.block _ q2 (fun h => by cases h; omega))
  · have ik : i = k := by
      have := (List.getElem?_eq_some_iff.1 ht).1
      simp at this
      omega
    subst ik
    rw [List.getElem?_append_right (by omega), el] at ht
    simp at ht
    subst ht
    rw [he] at hl
    cases hl
    have no : ∀ b, wr.heap.size ≤ b → out.ownBlock ≠ some b := fun b h1 h2 => by have := (hlt b h2).2; omega
    refine K.sub (fun b hb => ⟨⟨by have := hb.1; omega, by have := hb.2; omega⟩, ne b (by have := hb.2; omega) (no b hb.1)⟩) (K.fr (w' := w7) hv fun q hq => ?_)
    have q1 := hq.1
    have q2 := hq.2
    refine World.cell?_of_block ?_
    exact hg.block _ (by omega) (fun h => no _ q1 h.symm)
end
end Go.Proofs.YtahgnmbkobiclaaGreat
namespace Go.Proofs.YtahgnmbkobiclaaGreat
set_option linter.unusedVariables false
open Go.RowKit
theorem GR (w : World) (X Y : Obj) : Below w.heap.size w ((w.alloc X).alloc Y) := ((Below.refl _ _).alloc (Nat.le_refl _) _).alloc (by simp) _
set_option maxRecDepth 20000 in
set_option maxHeartbeats 4000000 in
theorem SameFlats_of (x y : Option Addr) (l l' : List FlR) (c d : Nat) (w : World) {S : Nat → Prop} (hS : ∀ b, S b → b < w.heap.size) (ha : RwF 8 (FlP S w) S w x l) (hb : RwF 8 (FlP S w) S w y l') :
    Calls Tryz.prog 17 #[.slice x l.length c, .slice y l'.length d] w fun e w' => e = .returned (.bool (decide (l = l'))) ∧ Below w.heap.size w w' := by
  have HA : Hid (RwF 8 (FlP S w) S w x l) := ha
  have HB : Hid (RwF 8 (FlP S w) S w y l') := hb
  have HS : Hid (∀ b, S b → b < w.heap.size) := hS
  have HX : Hid (∀ W f f' x1 x2 y1 y2 c1 c2 d1 d2, Below w.heap.size w W → FlQ S W f x1 x2 → FlQ S W f' y1 y2 → Calls Tryz.prog 39 #[.agg #[.string f.nm, .int .i64 f.wh, .int .i64 f.ce, .int .i64 f.ba, .int .i64 f.rg, .int .i64 f.sl, .slice x1 f.os.length c1, .slice x2 f.ls.length c2], .agg #[.string f'.nm, .int .i64 f'.wh, .int .i64 f'.ce, .int .i64 f'.ba, .int .i64 f'.rg, .int .i64 f'.sl, .slice y1 f'.os.length d1, .slice y2 f'.ls.length d2]] W fun e w' => e = .returned (.bool (decide (f = f'))) ∧ Below W.heap.size W w') := fun W f f' x1 x2 y1 y2 c1 c2 d1 d2 hb h1 h2 => SameFlat_of f f' x1 x2 y1 y2 c1 c2 d1 d2 W (fun b h => Nat.lt_of_lt_of_le (HS.out b h) hb.size) h1 h2
  clear ha hb hS
  by_cases el : l.length = l'.length
  · generalize hn : l'.length = n at *
    have HN : Hid _ := hn
    clear hn
    subst el
    go_enter Tryz.func17, Tryz.ntmps17
    go_wp2_with fail
    go_loopw [13] (fun i wr => ∃ k : Nat, k ≤ l.length ∧ i = .int .i64 k ∧ Below w.heap.size w wr ∧ ∀ j, j < k → l[j]? = l'[j]?) (fun i _ => l.length - (intOf i).toNat)
    case atStart => exact ⟨0, Nat.zero_le _, rfl, Below.refl _ _, fun j hj => absurd hj (Nat.not_lt_zero _)⟩
    case round =>
      obtain ⟨k, hk, rfl, hbw, hall⟩ := hrel
      have HW : Hid (Below w.heap.size w wr) := hbw
      have AL : Hid _ := hall
      clear hall
      by_cases hlt : k < l.length
      · obtain ⟨a, rfl⟩ := HA.out.some (by omega)
        obtain ⟨b, rfl⟩ := HB.out.some (by have := HN.out; omega)
        obtain ⟨s, sv, se, _, ⟨sx, sc, sy, sd, rfl, sq⟩, sk⟩ := (HA.out.frK keptF (w' := wr) (fun q hq => hbw.cell (HS.out _ hq))).el k hlt
        have e0 := sk.c0
        have e1 := sk.cp 0 _ rfl
        have e2 := sk.cp 1 _ rfl
        have e3 := sk.cp 2 _ rfl
        have e4 := sk.cp 3 _ rfl
        have e5 := sk.cp 4 _ rfl
        have e6 := sk.cp 5 _ rfl
        have e7 := sk.cp 6 _ rfl
        obtain ⟨t, tv, te, _, ⟨tx, tc, ty, td, rfl, tq⟩, tk⟩ := (HB.out.frK keptF (w' := wr) (fun q hq => hbw.cell (HS.out _ hq))).el k (by have := HN.out; omega)
        have d0 := tk.c0
        have d1 := tk.cp 0 _ rfl
        have d2 := tk.cp 1 _ rfl
        have d3 := tk.cp 2 _ rfl
        have d4 := tk.cp 3 _ rfl
        have d5 := tk.cp 4 _ rfl
        have d6 := tk.cp 5 _ rfl
        have d7 := tk.cp 6 _ rfl
        have ES : Hid (l[k]? = some s) := se
        have ET : Hid (l'[k]? = some t) := te
        have QS : Hid (FlQ S wr s sx sy) := sq
        have QT : Hid (FlQ S wr t tx ty) := tq
        have LT : Hid _ := hlt
        have kl : (k : Int) < l.length := by omega
        clear hbw se te hlt sk tk sq tq
        have za := block_lt_of_cell e0
        have zb := block_lt_of_cell d0
        go_wp2_with fail
        have ca0 : ∀ x : Sub wr, x.w.cell? (a.add (k * 8)) = some (.string s.nm) := fun x => (x.h.cell za).trans e0
        have ca1 : ∀ x : Sub wr, x.w.cell? ⟨(a.add (k * 8)).block, (a.add (k * 8)).off + 1, none⟩ = some (.int .i64 s.wh) := fun x => (x.h.cell (p := ⟨(a.add (k * 8)).block, (a.add (k * 8)).off + 1, none⟩) za).trans e1
        have ca2 : ∀ x : Sub wr, x.w.cell? ⟨(a.add (k * 8)).block, (a.add (k * 8)).off + 2, none⟩ = some (.int .i64 s.ce) := fun x => (x.h.cell (p := ⟨(a.add (k * 8)).block, (a.add (k * 8)).off + 2, none⟩) za).trans e2
        have ca3 : ∀ x : Sub wr, x.w.cell? ⟨(a.add (k * 8)).block, (a.add (k * 8)).off + 3, none⟩ = some (.int .i64 s.ba) := fun x => (x.h.cell (p := ⟨(a.add (k * 8)).block, (a.add (k * 8)).off + 3, none⟩) za).trans e3
        have ca4 : ∀ x : Sub wr, x.w.cell? ⟨(a.add (k * 8)).block, (a.add (k * 8)).off + 4, none⟩ = some (.int .i64 s.rg) := fun x => (x.h.cell (p := ⟨(a.add (k * 8)).block, (a.add (k * 8)).off + 4, none⟩) za).trans e4
        have ca5 : ∀ x : Sub wr, x.w.cell? ⟨(a.add (k * 8)).block, (a.add (k * 8)).off + 5, none⟩ = some (.int .i64 s.sl) := fun x => (x.h.cell (p := ⟨(a.add (k * 8)).block, (a.add (k * 8)).off + 5, none⟩) za).trans e5
        have ca6 : ∀ x : Sub wr, x.w.cell? ⟨(a.add (k * 8)).block, (a.add (k * 8)).off + 6, none⟩ = some (.slice sx s.os.length sc) := fun x => (x.h.cell (p := ⟨(a.add (k * 8)).block, (a.add (k * 8)).off + 6, none⟩) za).trans e6
        have ca7 : ∀ x : Sub wr, x.w.cell? ⟨(a.add (k * 8)).block, (a.add (k * 8)).off + 7, none⟩ = some (.slice sy s.ls.length sd) := fun x => (x.h.cell (p := ⟨(a.add (k * 8)).block, (a.add (k * 8)).off + 7, none⟩) za).trans e7
        have cb0 : ∀ x : Sub wr, x.w.cell? (b.add (k * 8)) = some (.string t.nm) := fun x => (x.h.cell zb).trans d0
        have cb1 : ∀ x : Sub wr, x.w.cell? ⟨(b.add (k * 8)).block, (b.add (k * 8)).off + 1, none⟩ = some (.int .i64 t.wh) := fun x => (x.h.cell (p := ⟨(b.add (k * 8)).block, (b.add (k * 8)).off + 1, none⟩) zb).trans d1
        have cb2 : ∀ x : Sub wr, x.w.cell? ⟨(b.add (k * 8)).block, (b.add (k * 8)).off + 2, none⟩ = some (.int .i64 t.ce) := fun x => (x.h.cell (p := ⟨(b.add (k * 8)).block, (b.add (k * 8)).off + 2, none⟩) zb).trans d2
        have cb3 : ∀ x : Sub wr, x.w.cell? ⟨(b.add (k * 8)).block, (b.add (k * 8)).off + 3, none⟩ = some (.int .i64 t.ba) := fun x => (x.h.cell (p := ⟨(b.add (k * 8)).block, (b.add (k * 8)).off + 3, none⟩) zb).trans d3
        have cb4 : ∀ x : Sub wr, x.w.cell? ⟨(b.add (k * 8)).block, (b.add (k * 8)).off + 4, none⟩ = some (.int .i64 t.rg) := fun x => (x.h.cell (p := ⟨(b.add (k * 8)).block, (b.add (k * 8)).off + 4, none⟩) zb).trans d4
        have cb5 : ∀ x : Sub wr, x.w.cell? ⟨(b.add (k * 8)).block, (b.add (k * 8)).off + 5, none⟩ = some (.int .i64 t.sl) := fun x => (x.h.cell (p := ⟨(b.add (k * 8)).block, (b.add (k * 8)).off + 5, none⟩) zb).trans d5
        have cb6 : ∀ x : Sub wr, x.w.cell? ⟨(b.add (k * 8)).block, (b.add (k * 8)).off + 6, none⟩ = some (.slice tx t.os.length tc) := fun x => (x.h.cell (p := ⟨(b.add (k * 8)).block, (b.add (k * 8)).off + 6, none⟩) zb).trans d6
        have cb7 : ∀ x : Sub wr, x.w.cell? ⟨(b.add (k * 8)).block, (b.add (k * 8)).off + 7, none⟩ = some (.slice ty t.ls.length td) := fun x => (x.h.cell (p := ⟨(b.add (k * 8)).block, (b.add (k * 8)).off + 7, none⟩) zb).trans d7
        have E1 : Hid (∀ y : Sub wr, Calls Tryz.prog 39 #[.agg #[.string s.nm, .int .i64 s.wh, .int .i64 s.ce, .int .i64 s.ba, .int .i64 s.rg, .int .i64 s.sl, .slice sx s.os.length sc, .slice sy s.ls.length sd], .agg #[.string t.nm, .int .i64 t.wh, .int .i64 t.ce, .int .i64 t.ba, .int .i64 t.rg, .int .i64 t.sl, .slice tx t.os.length tc, .slice ty t.ls.length td]] y.w fun e w' => e = .returned (.bool (decide (s = t))) ∧ Below y.w.heap.size y.w w') := fun y => HX.out _ _ _ _ _ _ _ _ _ _ _ (HW.out.trans (y.h.mono HW.out.size)) (QS.out.fr (fun q hq => y.h.cell (Nat.lt_of_lt_of_le (HS.out _ hq) HW.out.size))) (QT.out.fr (fun q hq => y.h.cell (Nat.lt_of_lt_of_le (HS.out _ hq) HW.out.size)))
        generalize hq : decide (s = t) = bq at *
        refine wp_region_sub2 (by kernel_rfl) (by kernel_rfl) ?_
        intro cx
        repeat (first | go_big_quiet_skip | (go_big_quiet_want; go_big_quiet_op; first | go_big_quiet_on | (refine ⟨_, fun _ => rfl, ?_⟩; go_big_quiet_on) | go_big_quiet_call (first | (go_at_call 39; exact calls_sub (E1.out _)))))
        refine wpQuiet_nil ?_
        rintro _ ⟨y, rfl⟩
        have B5 : Hid (Below w.heap.size w y.w) := HW.out.trans (y.h.mono HW.out.size)
        clear cx E1 e0 d0 e1 d1 e2 d2 e3 d3 e4 d4 e5 d5 e6 d6 e7 d7 za zb ca0 ca1 ca2 ca3 ca4 ca5 ca6 ca7 cb0 cb1 cb2 cb3 cb4 cb5 cb6 cb7
        subst hq
        by_cases q : s = t
        · have qq : decide (s = t) = true := decide_eq_true q
          have Q : Hid _ := q
          clear q
          rw [qq]
          have ew : wrap64 ((k : Int) + 1) = (k : Int) + 1 := by have := HA.out.1; have := LT.out; unfold wrap64; omega
          go_wp2
          rw [ew]
          exact ⟨⟨k + 1, Nat.succ_le_of_lt LT.out, rfl, B5.out, fun j hj => by rcases Nat.lt_succ_iff_lt_or_eq.1 hj with h | rfl; exact AL.out j h; rw [ES.out, ET.out, Q.out]⟩, msr LT.out⟩
        · have qq : decide (s = t) = false := decide_eq_false q
          have Q : Hid _ := q
          clear q
          rw [qq]
          have ed : decide (l = l') = false := decide_eq_false fun e => Q.out (by have a := ES.out; rw [e, ET.out] at a; exact (Option.some.inj a).symm)
          clear qq
          go_wp2
          go_ret
          exact ⟨by first | rfl | (rw [ed]; rfl) | rw [ed], B5.out⟩
      · have kl : ¬ (k : Int) < l.length := by omega
        have ed : decide (l = l') = true := decide_eq_true (List.ext_getElem? fun j => by
          by_cases hj : j < k
          · exact AL.out j hj
          · have := HN.out
            rw [List.getElem?_eq_none (by omega), List.getElem?_eq_none (by omega)])
        clear hbw hlt
        go_wp2
        go_ret
        exact ⟨by first | rfl | (rw [ed]; rfl) | rw [ed], HW.out⟩
  · have el' : ((l.length : Int) == (l'.length : Int)) = false := by rw [beq_eq_false_iff_ne]; omega
    have el2 : ((l.length : Int) != (l'.length : Int)) = true := by simp [bne, el']
    have ed : decide (l = l') = false := decide_eq_false fun e => el (by rw [e])
    clear el
    go_enter Tryz.func17, Tryz.ntmps17
    go_wp2
    go_ret
    exact ⟨by first | rfl | (rw [ed]; rfl) | rw [ed], Below.refl _ _⟩
end Go.Proofs.YtahgnmbkobiclaaGreat
