/- What the document's spanText answers; no statement of the seat is proved here. -/
import Derived.Test.YtmglgaeobofdpaaDoorSpV
namespace Go.Proofs.YtmglgaeobofdpaaDoor
set_option linter.unusedVariables false
open Go.RowKit
def qM (i : Nat) : ByteArray := ([⟨#[100]⟩, ⟨#[104]⟩, ⟨#[109]⟩, ⟨#[115]⟩, ⟨#[109, 115]⟩, ⟨#[117, 115]⟩, ⟨#[110, 115]⟩] : List ByteArray).getD i ⟨#[]⟩
def qB (i : Nat) : Int := ([9223372036854775807, 24, 60, 60, 1000, 1000, 1000] : List Int).getD i 0
set_option maxRecDepth 100000 in
set_option maxHeartbeats 2000000 in
theorem unitR_of (i : Nat) (h : i < 7) (w : World) : Calls Tryd.prog 44 #[.int .i64 i] w fun e w' => e = .returned (.tuple #[.string (qM i), .int .i64 (pL i : Int), .int .i64 (qB i)]) ∧ w' = w := by
  rcases (by omega : i = 0 ∨ i = 1 ∨ i = 2 ∨ i = 3 ∨ i = 4 ∨ i = 5 ∨ i = 6) with rfl | rfl | rfl | rfl | rfl | rfl | rfl
  all_goals
    go_enter Tryd.func44, Tryd.ntmps44
    go_wp2
    exact bodyPost_ret (v := .tuple #[.string (qM _), .int .i64 (pL _ : Int), .int .i64 (qB _)]) (by simp [results, Tryd.results44, go_sem]; exact ⟨rfl, rfl, rfl⟩) rfl ⟨rfl, rfl⟩
theorem words_cell (w : World) (i : Nat) (h : i < 7) : (w.alloc (.cells #[.string ⟨#[68]⟩, .string ⟨#[72]⟩, .string ⟨#[77]⟩, .string ⟨#[83]⟩, .string ⟨#[77, 83]⟩, .string ⟨#[85, 83]⟩, .string ⟨#[78, 83]⟩] 9)).cell? ⟨w.heap.size, i, none⟩ = some (.string (pN i)) := by
  rw [World.cell?_alloc_new]
  rcases (by omega : i = 0 ∨ i = 1 ∨ i = 2 ∨ i = 3 ∨ i = 4 ∨ i = 5 ∨ i = 6) with rfl | rfl | rfl | rfl | rfl | rfl | rfl <;> rfl
theorem dcS_one (u : Nat) : dcS u 1 = decS u := by
  unfold dcS decS
  rw [show max 1 (Lib.nDigits u) = Lib.nDigits u by have := Lib.nDigits_pos u; omega, ← decLow_all]
/-- The text of so many nanoseconds. -/
def spS (N : Nat) : ByteArray := if N = 0 then ⟨#[48, 83]⟩ else spT N 7
theorem isEmpty_no {x : ByteArray} (h : ¬ x.size = 0) : x.toList.isEmpty = false := by
  have e : x.toList.length = x.size := by rw [ByteArray.toList_eq]; simp
  cases hx : x.toList with
  | nil => rw [hx] at e; simp at e; omega
  | cons a l => rfl
theorem isEmpty_yes {x : ByteArray} (h : x.size = 0) : x.toList.isEmpty = true := by
  have e : x.toList.length = x.size := by rw [ByteArray.toList_eq]; simp
  cases hx : x.toList with
  | nil => rfl
  | cons a l => rw [hx] at e; simp at e; omega
theorem u64_neg0 (b : Int) (N : Nat) (h : 9223372036854775808 ≤ b) (hb : b < 18446744073709551616) (hN : (18446744073709551616 - b).toNat = N) : IntKind.u64.wrap (-b) = (N : Int) := by
  rw [IntKind.wrap_u64]; omega
set_option maxRecDepth 100000 in
set_option maxHeartbeats 2000000 in
theorem spanText_neg (b : Int) (N : Nat) (n0 : 9223372036854775808 ≤ b) (h1 : b < 18446744073709551616) (hN : (18446744073709551616 - b).toNat = N) (w : World) :
    Calls Tryd.prog 22 #[.int .u64 b] w fun e w' => e = .returned (.string (⟨#[84, 35]⟩ ++ (⟨#[45]⟩ ++ spT N 7))) ∧ Below w.heap.size w w' := by
  have N64 : N < 18446744073709551616 := by omega
  have N0 : Hid (¬ N = 0) := by show ¬ _; omega
  have e1 := u64_neg0 b N n0 h1 hN
  clear hN
  · skip
    go_enter Tryd.func22, Tryd.ntmps22
    go_wp2
    have WC : Hid (∀ i, i < 7 → (w.alloc (.cells #[.string ⟨#[68]⟩, .string ⟨#[72]⟩, .string ⟨#[77]⟩, .string ⟨#[83]⟩, .string ⟨#[77, 83]⟩, .string ⟨#[85, 83]⟩, .string ⟨#[78, 83]⟩] 9)).cell? ⟨w.heap.size, i, none⟩ = some (.string (pN i))) := fun i hi => words_cell w i hi
    have WB : Hid (Below w.heap.size w (w.alloc (.cells #[.string ⟨#[68]⟩, .string ⟨#[72]⟩, .string ⟨#[77]⟩, .string ⟨#[83]⟩, .string ⟨#[77, 83]⟩, .string ⟨#[85, 83]⟩, .string ⟨#[78, 83]⟩] 9)) ∧ w.heap.size < (w.alloc (.cells #[.string ⟨#[68]⟩, .string ⟨#[72]⟩, .string ⟨#[77]⟩, .string ⟨#[83]⟩, .string ⟨#[77, 83]⟩, .string ⟨#[85, 83]⟩, .string ⟨#[78, 83]⟩] 9)).heap.size) := ⟨(Below.refl _ _).alloc (Nat.le_refl _) _, by simp⟩
    generalize hW0 : w.alloc (.cells #[.string ⟨#[68]⟩, .string ⟨#[72]⟩, .string ⟨#[77]⟩, .string ⟨#[83]⟩, .string ⟨#[77, 83]⟩, .string ⟨#[85, 83]⟩, .string ⟨#[78, 83]⟩] 9) = W0 at *
    clear hW0
    go_loopw [4, 5, 7] (fun vl vt vi wr => ∃ i : Nat, i ≤ 7 ∧ vi = .int .i64 (i : Int) ∧ vl = .int .u64 (spL N i : Int) ∧ vt = .string (spT N i) ∧ Below W0.heap.size W0 wr) (fun _ _ vi _ => (7 - intOf vi).toNat)
    case atStart => exact ⟨0, by omega, rfl, rfl, rfl, Below.refl _ _⟩
    case round =>
      obtain ⟨i, hi, rfl, rfl, rfl, B0⟩ := hrel
      have B : Hid _ := B0
      clear B0
      have gp : w.heap.size < wr.heap.size := Nat.lt_of_lt_of_le WB.out.2 B.out.size
      by_cases c7 : i < 7
      · have c7' : (i : Int) < 7 := by omega
        have cN : wr.cell? ⟨w.heap.size, i, none⟩ = some (.string (pN i)) := (B.out.cell (p := ⟨w.heap.size, i, none⟩) WB.out.2).trans (WC.out i c7)
        have U : Hid _ := fun w => unitR_of i c7 w
        have pb := pL_bd i
        have pn := pN_bd i
        have lb : spL N i < 18446744073709551616 := by have := spL_le N i; omega
        have ts := spT_size N N64 i
        have e1 : Hid (spL N (i + 1) = spL N i % pL i) := rfl
        have e2 : Hid (spT N (i + 1) = if 0 < spL N i / pL i then spT N i ++ (decS (spL N i / pL i) ++ pN i) else spT N i) := rfl
        generalize spL N i = l at *
        generalize pL i = q at *
        generalize spT N i = t at *
        generalize pN i = nm at *
        generalize qM i = qm at *
        generalize qB i = qb at *
        have cb : l / q < 18446744073709551616 := by have := Nat.div_le_self l q; omega
        have wq : IntKind.u64.wrap ((l : Int) / (q : Int)) = ((l / q : Nat) : Int) := by
          rw [← Int.natCast_ediv]; exact wrapN _ cb
        have FC : Hid _ := fun w => digitsR_of (l / q) 1 cb (by omega) (by omega) w
        have ds := decS_size (l / q) cb
        have dd : Hid (dcS (l / q) 1 = decS (l / q)) := dcS_one (l / q)
        rw [dd.out] at FC
        clear dd
        generalize l / q = cnt at *
        generalize decS cnt = dt at *
        have asc : Hid ((t ++ dt) ++ nm = t ++ (dt ++ nm)) := ByteArray.append_assoc
        by_cases c0 : 0 < cnt
        · have c0' : (0 : Int) < cnt := by omega
          rw [if_pos c0] at e2
          go_wp2_with (go_at_call 44; refine (U.out _).mono ?_; rintro e w2 ⟨rfl, rfl⟩)
          refine wp_region_sub2 (by kernel_rfl) (by kernel_rfl) ?_
          intro cx
          repeat (first | go_big_quiet_skip | (go_big_quiet_want; go_big_quiet_op; first | go_big_quiet_on | (refine ⟨_, fun _ => rfl, ?_⟩; go_big_quiet_on) | go_big_quiet_call (first
            | (go_at_call 56; exact calls_sub (FC.out _)))))
          refine wpQuiet_nil ?_
          rintro _ ⟨y, rfl⟩
          have B5 : Hid (Below W0.heap.size W0 y.w) := B.out.trans (y.h.mono B.out.size)
          clear cx
          go_wp2
          refine ⟨⟨i + 1, by omega, by push_cast; rfl, by rw [e1.out]; push_cast; rfl, by rw [e2.out, asc.out], B5.out⟩, ?_⟩
          simp [intOf]
          omega
        · have c0' : ¬ (0 : Int) < cnt := by omega
          rw [if_neg c0] at e2
          go_wp2_with (go_at_call 44; refine (U.out _).mono ?_; rintro e w2 ⟨rfl, rfl⟩)
          refine ⟨⟨i + 1, by omega, by push_cast; rfl, by rw [e1.out]; push_cast; rfl, by rw [e2.out], B.out⟩, ?_⟩
          simp [intOf]
          omega
      · have : i = 7 := by omega
        subst this
        have BW : Hid (Below w.heap.size w wr) := WB.out.1.trans (B.out.mono (Nat.le_of_lt WB.out.2))
        have ts := spT_size N N64 7
        have se : Hid ((spT N 7).size = 0 ↔ N = 0) := spT_empty N
        have em : (spT N 7).toList.isEmpty = false := isEmpty_no (fun q => N0.out (se.out.1 q))
        clear se
        generalize hx : spT N 7 = x at *
        have asc : Hid ((⟨#[84, 35]⟩ : ByteArray) ++ ⟨#[45]⟩ ++ x = ⟨#[84, 35]⟩ ++ (⟨#[45]⟩ ++ x)) := ByteArray.append_assoc
        go_wp2
        go_ret
        exact ⟨by rw [hx, ← asc.out]; rfl, BW.out⟩

set_option maxRecDepth 100000 in
set_option maxHeartbeats 2000000 in
theorem spanText_pos (b : Int) (N : Nat) (h0 : 0 ≤ b) (n0 : ¬ (9223372036854775808 : Int) ≤ b) (hN : b.toNat = N) (w : World) :
    Calls Tryd.prog 22 #[.int .u64 b] w fun e w' => e = .returned (.string (⟨#[84, 35]⟩ ++ spS N)) ∧ Below w.heap.size w w' := by
  have N64 : N < 18446744073709551616 := by omega
  obtain rfl : b = (N : Int) := by omega
  clear hN h0
  · skip
    go_enter Tryd.func22, Tryd.ntmps22
    go_wp2
    have WC : Hid (∀ i, i < 7 → (w.alloc (.cells #[.string ⟨#[68]⟩, .string ⟨#[72]⟩, .string ⟨#[77]⟩, .string ⟨#[83]⟩, .string ⟨#[77, 83]⟩, .string ⟨#[85, 83]⟩, .string ⟨#[78, 83]⟩] 9)).cell? ⟨w.heap.size, i, none⟩ = some (.string (pN i))) := fun i hi => words_cell w i hi
    have WB : Hid (Below w.heap.size w (w.alloc (.cells #[.string ⟨#[68]⟩, .string ⟨#[72]⟩, .string ⟨#[77]⟩, .string ⟨#[83]⟩, .string ⟨#[77, 83]⟩, .string ⟨#[85, 83]⟩, .string ⟨#[78, 83]⟩] 9)) ∧ w.heap.size < (w.alloc (.cells #[.string ⟨#[68]⟩, .string ⟨#[72]⟩, .string ⟨#[77]⟩, .string ⟨#[83]⟩, .string ⟨#[77, 83]⟩, .string ⟨#[85, 83]⟩, .string ⟨#[78, 83]⟩] 9)).heap.size) := ⟨(Below.refl _ _).alloc (Nat.le_refl _) _, by simp⟩
    generalize hW0 : w.alloc (.cells #[.string ⟨#[68]⟩, .string ⟨#[72]⟩, .string ⟨#[77]⟩, .string ⟨#[83]⟩, .string ⟨#[77, 83]⟩, .string ⟨#[85, 83]⟩, .string ⟨#[78, 83]⟩] 9) = W0 at *
    clear hW0
    go_loopw [4, 5, 7] (fun vl vt vi wr => ∃ i : Nat, i ≤ 7 ∧ vi = .int .i64 (i : Int) ∧ vl = .int .u64 (spL N i : Int) ∧ vt = .string (spT N i) ∧ Below W0.heap.size W0 wr) (fun _ _ vi _ => (7 - intOf vi).toNat)
    case atStart => exact ⟨0, by omega, rfl, rfl, rfl, Below.refl _ _⟩
    case round =>
      obtain ⟨i, hi, rfl, rfl, rfl, B0⟩ := hrel
      have B : Hid _ := B0
      clear B0
      have gp : w.heap.size < wr.heap.size := Nat.lt_of_lt_of_le WB.out.2 B.out.size
      by_cases c7 : i < 7
      · have c7' : (i : Int) < 7 := by omega
        have cN : wr.cell? ⟨w.heap.size, i, none⟩ = some (.string (pN i)) := (B.out.cell (p := ⟨w.heap.size, i, none⟩) WB.out.2).trans (WC.out i c7)
        have U : Hid _ := fun w => unitR_of i c7 w
        have pb := pL_bd i
        have pn := pN_bd i
        have lb : spL N i < 18446744073709551616 := by have := spL_le N i; omega
        have ts := spT_size N N64 i
        have e1 : Hid (spL N (i + 1) = spL N i % pL i) := rfl
        have e2 : Hid (spT N (i + 1) = if 0 < spL N i / pL i then spT N i ++ (decS (spL N i / pL i) ++ pN i) else spT N i) := rfl
        generalize spL N i = l at *
        generalize pL i = q at *
        generalize spT N i = t at *
        generalize pN i = nm at *
        generalize qM i = qm at *
        generalize qB i = qb at *
        have cb : l / q < 18446744073709551616 := by have := Nat.div_le_self l q; omega
        have wq : IntKind.u64.wrap ((l : Int) / (q : Int)) = ((l / q : Nat) : Int) := by
          rw [← Int.natCast_ediv]; exact wrapN _ cb
        have FC : Hid _ := fun w => digitsR_of (l / q) 1 cb (by omega) (by omega) w
        have ds := decS_size (l / q) cb
        have dd : Hid (dcS (l / q) 1 = decS (l / q)) := dcS_one (l / q)
        rw [dd.out] at FC
        clear dd
        generalize l / q = cnt at *
        generalize decS cnt = dt at *
        have asc : Hid ((t ++ dt) ++ nm = t ++ (dt ++ nm)) := ByteArray.append_assoc
        by_cases c0 : 0 < cnt
        · have c0' : (0 : Int) < cnt := by omega
          rw [if_pos c0] at e2
          go_wp2_with (go_at_call 44; refine (U.out _).mono ?_; rintro e w2 ⟨rfl, rfl⟩)
          refine wp_region_sub2 (by kernel_rfl) (by kernel_rfl) ?_
          intro cx
          repeat (first | go_big_quiet_skip | (go_big_quiet_want; go_big_quiet_op; first | go_big_quiet_on | (refine ⟨_, fun _ => rfl, ?_⟩; go_big_quiet_on) | go_big_quiet_call (first
            | (go_at_call 56; exact calls_sub (FC.out _)))))
          refine wpQuiet_nil ?_
          rintro _ ⟨y, rfl⟩
          have B5 : Hid (Below W0.heap.size W0 y.w) := B.out.trans (y.h.mono B.out.size)
          clear cx
          go_wp2
          refine ⟨⟨i + 1, by omega, by push_cast; rfl, by rw [e1.out]; push_cast; rfl, by rw [e2.out, asc.out], B5.out⟩, ?_⟩
          simp [intOf]
          omega
        · have c0' : ¬ (0 : Int) < cnt := by omega
          rw [if_neg c0] at e2
          go_wp2_with (go_at_call 44; refine (U.out _).mono ?_; rintro e w2 ⟨rfl, rfl⟩)
          refine ⟨⟨i + 1, by omega, by push_cast; rfl, by rw [e1.out]; push_cast; rfl, by rw [e2.out], B.out⟩, ?_⟩
          simp [intOf]
          omega
      · have : i = 7 := by omega
        subst this
        have BW : Hid (Below w.heap.size w wr) := WB.out.1.trans (B.out.mono (Nat.le_of_lt WB.out.2))
        have ts := spT_size N N64 7
        have se : Hid ((spT N 7).size = 0 ↔ N = 0) := spT_empty N
        by_cases z : N = 0
        · have em : (spT N 7).toList.isEmpty = true := isEmpty_yes (se.out.2 z)
          clear se
          have R : Hid (spS N = ⟨#[48, 83]⟩) := by show _ = _; unfold spS; rw [if_pos z]
          generalize hx : spT N 7 = x at *
          clear n0 N64
          clear z
          go_wp2
          go_ret
          exact ⟨congrArg (fun y => Ending.returned (Value.string y)) (by rw [R.out, ba_nil]), BW.out⟩
        · have em : (spT N 7).toList.isEmpty = false := isEmpty_no (fun q => z (se.out.1 q))
          clear se
          have R : Hid (spS N = spT N 7) := by show _ = _; unfold spS; rw [if_neg z]
          generalize hx : spT N 7 = x at *
          clear n0 N64
          go_wp2
          go_ret
          exact ⟨congrArg (fun y => Ending.returned (Value.string y)) (by rw [R.out, ba_nil]), BW.out⟩

end Go.Proofs.YtmglgaeobofdpaaDoor
