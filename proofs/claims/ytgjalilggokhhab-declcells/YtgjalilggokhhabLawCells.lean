/- DeclCells is proved: for every type the statement's function returns true, and its argument reads as it did; no condition. -/
import Derived.Test.YtgjalilggokhhabOpenC
import Derived.Test.YtgjalilggokhhabSubG
import Derived.ShutString
import Derived.ChangeOld
import Derived.Below
import Derived.Handy
import Derived.Deep.RegionWith
import Derived.Deep.Light
namespace Go.Proofs.Ytgjalilggokhhab.LawCells
set_option linter.unusedVariables false
open Go.ChangeShapes Go.WideShapes Go.ChangeAt Go.RowKit
theorem own : ownKnob Try.prog.godebug = none := by kernel_rfl
theorem laidOut : laidOutB Try.prog = true := by kernel_rfl
theorem ret_int {k : IntKind} {a b : Int} (h : a = b) : Ending.returned (.int k a) = .returned (.int k b) := by rw [h]
/-- How many elements an array has. -/
def elN (fr to : Int) : Int := if fr ≤ to ∧ to - fr < 256 then to - fr + 1 else 0
theorem el_b (fr to : Int) (h : fr ≤ to) (g : -9223372036854775808 ≤ fr ∧ to < 9223372036854775808) : IntKind.u64.wrap (IntKind.u64.wrap to - IntKind.u64.wrap fr) = to - fr := by
  simp only [IntKind.wrap_u64]; omega
set_option maxHeartbeats 1000000 in
theorem elements_of (fr to : Int) (w : World) (g : -9223372036854775808 ≤ fr ∧ fr < 9223372036854775808) (h : -9223372036854775808 ≤ to ∧ to < 9223372036854775808) :
    Calls Try.prog 6 #[.int .i64 fr, .int .i64 to] w fun e w' => e = .returned (.int .i64 (elN fr to)) ∧ w' = w := by
  by_cases c : fr ≤ to
  · have B := el_b fr to c ⟨g.1, h.2⟩
    obtain ⟨g1, g2⟩ := g
    obtain ⟨h1, h2⟩ := h
    by_cases d : to - fr < 256
    · have R : Hid (elN fr to = to - fr + 1) := by show _ = _; unfold elN; rw [if_pos ⟨c, d⟩]
      go_enter Try.func6, Try.ntmps6
      go_wp2
      go_ret
      exact ⟨ret_int (by rw [R.out]), rfl⟩
    · have R : Hid (elN fr to = 0) := by show _ = _; unfold elN; rw [if_neg (fun x => d x.2)]
      go_enter Try.func6, Try.ntmps6
      go_wp2
      go_ret
      exact ⟨ret_int (by rw [R.out]), rfl⟩
  · have R : Hid (elN fr to = 0) := by show _ = _; unfold elN; rw [if_neg (fun x => c x.1)]
    go_enter Try.func6, Try.ntmps6
    go_wp2
    go_ret
    exact ⟨ret_int (by rw [R.out]), rfl⟩
/-- How many cells a variable of a type has. -/
def celN (arr : Bool) (fr to : Int) (bl : ByteArray) : Int := if arr then elN fr to else if bl.toList = [] then 1 else 0
section
variable (tk : Int) (sub : Bool) (lo hi mx : Int) (arr : Bool) (fr to : Int) (bl : ByteArray) (w : World)
set_option maxHeartbeats 1000000 in
theorem Cells_of (g : -9223372036854775808 ≤ fr ∧ fr < 9223372036854775808) (h : -9223372036854775808 ≤ to ∧ to < 9223372036854775808) :
    Calls Try.prog 4 #[T tk sub lo hi mx arr fr to bl] w fun e w' => e = .returned (.int .i64 (celN arr fr to bl)) ∧ Below w.heap.size w w' := by
  cases arr
  · by_cases b : bl.toList = []
    · have R : Hid (celN false fr to bl = 1) := by show _ = _; simp [celN, b]
      go_enter Try.func4, Try.ntmps4
      go_wp2
      go_ret
      exact ⟨ret_int (by rw [R.out]), (Below.refl _ _).alloc (Nat.le_refl _) _⟩
    · have R : Hid (celN false fr to bl = 0) := by show _ = _; simp [celN, b]
      have b2 : bl.toList.isEmpty = false := by simpa using b
      clear b
      go_enter Try.func4, Try.ntmps4
      go_wp2
      go_ret
      exact ⟨ret_int (by rw [R.out]), (Below.refl _ _).alloc (Nat.le_refl _) _⟩
  · have R : Hid (celN true fr to bl = elN fr to) := rfl
    go_enter Try.func4, Try.ntmps4
    go_wp2_with (go_at_call 6; refine (elements_of _ _ _ g h).mono ?_; rintro e w1 ⟨rfl, rfl⟩)
    go_ret
    exact ⟨ret_int (by rw [R.out]), (Below.refl _ _).alloc (Nat.le_refl _) _⟩
set_option maxHeartbeats 1000000 in
theorem CellsR_of (g : -9223372036854775808 ≤ fr ∧ fr < 9223372036854775808) (h : -9223372036854775808 ≤ to ∧ to < 9223372036854775808) :
    Calls Try.prog 5 #[T tk sub lo hi mx arr fr to bl] w fun e w' => e = .returned (.int .i64 (celN arr fr to bl)) ∧ Below w.heap.size w w' := by
  cases arr
  · by_cases b : bl.toList = []
    · have R : Hid (celN false fr to bl = 1) := by show _ = _; simp [celN, b]
      go_enter Try.func5, Try.ntmps5
      go_wp2
      go_ret
      exact ⟨ret_int (by rw [R.out]), (Below.refl _ _).alloc (Nat.le_refl _) _⟩
    · have R : Hid (celN false fr to bl = 0) := by show _ = _; simp [celN, b]
      have b2 : bl.toList.isEmpty = false := by simpa using b
      clear b
      go_enter Try.func5, Try.ntmps5
      go_wp2
      go_ret
      exact ⟨ret_int (by rw [R.out]), (Below.refl _ _).alloc (Nat.le_refl _) _⟩
  · by_cases c : fr ≤ to
    · have B := el_b fr to c ⟨g.1, h.2⟩
      obtain ⟨g1, g2⟩ := g
      obtain ⟨h1, h2⟩ := h
      by_cases d : to - fr < 256
      · have R : Hid (celN true fr to bl = to - fr + 1) := by show _ = _; simp only [celN, if_true]; unfold elN; rw [if_pos ⟨c, d⟩]
        go_enter Try.func5, Try.ntmps5
        go_wp2
        go_ret
        exact ⟨ret_int (by rw [R.out]), (Below.refl _ _).alloc (Nat.le_refl _) _⟩
      · have R : Hid (celN true fr to bl = 0) := by show _ = _; simp only [celN, if_true]; unfold elN; rw [if_neg (fun x => d x.2)]
        go_enter Try.func5, Try.ntmps5
        go_wp2
        go_ret
        exact ⟨ret_int (by rw [R.out]), (Below.refl _ _).alloc (Nat.le_refl _) _⟩
    · have R : Hid (celN true fr to bl = 0) := by show _ = _; simp only [celN, if_true]; unfold elN; rw [if_neg (fun x => c x.1)]
      go_enter Try.func5, Try.ntmps5
      go_wp2
      go_ret
      exact ⟨ret_int (by rw [R.out]), (Below.refl _ _).alloc (Nat.le_refl _) _⟩
end
set_option maxHeartbeats 400000 in
theorem walk (tk : Int) (sub : Bool) (lo hi mx : Int) (arr : Bool) (fr to : Int) (bl : ByteArray) (w : World) (g : -9223372036854775808 ≤ fr ∧ fr < 9223372036854775808) (h : -9223372036854775808 ≤ to ∧ to < 9223372036854775808) :
    Calls Try.prog 3 #[T tk sub lo hi mx arr fr to bl] w fun e w' => e = .returned (.bool true) ∧ Below w.heap.size w w' := by
  have C1 : Hid _ := fun w => Cells_of tk sub lo hi mx arr fr to bl w g h
  have C2 : Hid _ := fun w => CellsR_of tk sub lo hi mx arr fr to bl w g h
  have C3 : Hid (∀ w, Calls Try.prog 4 #[T 3 false 0 0 0 true 1 3 ⟨#[]⟩] w fun e w' => e = .returned (.int .i64 3) ∧ Below w.heap.size w w') := fun w => Cells_of 3 false 0 0 0 true 1 3 ⟨#[]⟩ w (by omega) (by omega)
  generalize celN arr fr to bl = v at *
  go_enter Try.func3, Try.ntmps3
  go_wp2
  refine wp_region_sub2 (by kernel_rfl) (by kernel_rfl) ?_
  intro cx
  repeat (first | go_big_quiet_skip | (go_big_quiet_want; go_big_quiet_op; first | go_big_quiet_on | (refine ⟨_, fun _ => rfl, ?_⟩; go_big_quiet_on) | go_big_quiet_call (first | (go_at_call_of 4 bl; exact calls_sub (C1.out _)) | (go_at_call 5; exact calls_sub (C2.out _)) | (go_at_call 4; exact calls_sub (C3.out _)))))
  refine wpQuiet_nil ?_
  rintro _ ⟨x, rfl⟩
  go_wp2
  go_ret
  exact ⟨rfl, ((Below.refl _ _).alloc (Nat.le_refl _) _).trans (x.h.mono (by simp))⟩
set_option maxRecDepth 100000 in
theorem lifted (os : Os) (started : os.Started) (H : Type) (enc : TypeId × Value → H) :
    ReturnsInHanded {} Try.checked os 3 .any (Rows.declCellsSpec.pre6 enc Try.prog Try.f3 Rows.declCellsRow.domain false) (Rows.declCellsSpec.post enc Try.prog Try.f3 false true false false) := by
  refine returnsInHanded_of_change (C := Try.checked) own started (by kernel_rfl) Try.func3
    (ChangeSpec.witness6 (enc := enc) (C := Try.checked) false ⟨#[], #[T 0 false 0 0 0 false 0 0 ⟨#[]⟩], []⟩ 8 (by kernel_rfl) (by kernel_rfl) (by kernel_rfl) (by kernel_rfl)) ?_
  intro W base args ds gs before hval0 hW hcnd _
  have hval : ∀ (j : Nat) t v, Try.f3.params[j]? = some t → args[j]? = some v → Value.okWide Try.prog W .any base t v := hval0
  have hW' := hW
  obtain ⟨p, q, hA0, hV, rfl, hfz, hnd⟩ := hW
  have hA : DataW.TrodAll enc Try.prog W 0 (fun _ => true) true Try.f3.params.toList args.toList ds p := hA0
  rw [Try.params3] at hA hval
  obtain ⟨v0, vs0, d0, ds0, p0, q0, hargs, rfl, rfl, h0, r0⟩ := trodAll_cons hA
  obtain ⟨rfl, rfl, rfl⟩ := trodAll_nil r0
  obtain rfl : args = #[v0] := by cases args; simp_all
  obtain ⟨rfl, rfl⟩ := trodVars_none hV
  have k0 := h0
  have lt0 : ∀ x ∈ p0, x.block < W.heap.size := by obtain ⟨m, hm⟩ := k0; exact DataW.trod_lt m _ _ _ hm
  obtain ⟨tk, sub, lo, hi, mx, arr, fr, to, bl, rfl, g1, g2⟩ := open_T (hval 0 24 v0 rfl rfl) h0
  clear hA0 hval0
  refine (walk tk sub lo hi mx arr fr to bl W g1 g2).mono fun e W' ⟨he, bel⟩ => ?_
  subst he
  exact ⟨_, rfl, _, _, _, [], _, [], hW', trodAll_mk1 (shut_bool Try.underlying4 _), (trodAll_cons_mk (Below.trod laidOut (by kernel_rfl) (of_decide_eq_true (by kernel_rfl)) k0 bel lt0) trodAll_mk0), rfl, bel.frame _, fun h => by cases h⟩
end Go.Proofs.Ytgjalilggokhhab.LawCells
namespace Go.Proofs.Ytgjalilggokhhab
/-- THE STATEMENT. -/
theorem declCells_proved : Rows.DeclCellsSaid :=
  OpenClaim.holds_of_wide 3 Try.f3 rfl rfl rfl rfl rfl rfl rfl ⟨rfl, rfl, rfl, rfl, rfl⟩ rfl rfl rfl rfl rfl (by kernel_rfl) Try.func3 (by kernel_rfl)
    (of_decide_eq_true (by kernel_rfl)) (by unfold Func.isWrapper; first | (rw [if_pos (by decide +kernel)]; kernel_rfl) | (rw [if_neg (by decide +kernel)]; exact ⟨rfl, rfl⟩))
    (fun os started H enc _ => LawCells.lifted os started H enc)
end Go.Proofs.Ytgjalilggokhhab
