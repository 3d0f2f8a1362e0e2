/- ValueFits is proved: for every type and value the statement's function returns true, and its arguments read as they did; no condition. -/
import Derived.Test.YtdnpeghdfhjmaaaFitR
import Derived.Test.YtdnpeghdfhjmaaaOpenT
import Derived.ShutString
import Derived.ChangeOld
import Derived.Below
namespace Go.Proofs.Ytdnpeghdfhjmaaa.LawFits
set_option linter.unusedVariables false
open Go.ChangeShapes Go.WideShapes Go.ChangeAt Go.RowKit
theorem own : ownKnob Try.prog.godebug = none := by kernel_rfl
theorem laidOut : laidOutB Try.prog = true := by kernel_rfl
set_option maxHeartbeats 1000000 in
theorem walk (tk : Int) (sub : Bool) (lo hi mx : Int) (arr : Bool) (fr to : Int) (bl : ByteArray) (k b : Int) (s : ByteArray) (w : World)
    (h0 : 0 ≤ b) (h1 : b < 18446744073709551616) (hk : 0 ≤ k ∧ k < 256) (hs : s.size ≤ maxLen) (g1 : -9223372036854775808 ≤ lo ∧ lo < 9223372036854775808) (g2 : -9223372036854775808 ≤ hi ∧ hi < 9223372036854775808) :
    Calls Try.prog 4 #[T tk sub lo hi mx arr fr to bl, V k b s] w fun e w' => e = .returned (.bool true) ∧ Below w.heap.size w w' := by
  go_enter Try.func4, Try.ntmps4
  go_wp2
  have cx := fun (x : Sub ((w.alloc (Obj.cells #[Value.int IntKind.u8 tk, Value.bool sub, Value.int IntKind.i64 lo, Value.int IntKind.i64 hi, Value.int IntKind.i64 mx, Value.bool arr, Value.int IntKind.i64 fr, Value.int IntKind.i64 to, Value.string bl] 40)).alloc (Obj.cells #[Value.int IntKind.u8 k, Value.int IntKind.u64 b, Value.string s] 26))) => x.cell
  refine wp_region_sub (by kernel_rfl) (by kernel_rfl) ?_
  repeat (first | go_big_quiet_skip | (go_big_quiet_want; go_big_quiet_op; first | go_big_quiet_on | (refine ⟨_, fun _ => rfl, ?_⟩; go_big_quiet_on) | go_big_quiet_call (first | (go_at_call 22; exact calls_sub (May_of _ _ _ _ h0 h1 hk hs)) | (go_at_call 23; exact calls_sub (MayR_of _ _ _ _ h0 h1 hk hs)) | (go_at_call 24; exact calls_sub (Fits_of _ _ _ _ _ _ _ _ _ _ _ _ _ h0 h1 hk hs g1 g2)) | (go_at_call 25; exact calls_sub (FitsR_of _ _ _ _ _ _ _ _ _ _ _ _ _ h0 h1 hk hs g1 g2)))))
  refine wpQuiet_nil ?_
  rintro _ ⟨x, rfl⟩
  go_wp2
  go_ret
  exact ⟨by simp, below_box2 x.h⟩
set_option maxRecDepth 100000 in
theorem lifted (os : Os) (started : os.Started) (H : Type) (enc : TypeId × Value → H) :
    ReturnsInHanded {} Try.checked os 4 .any (Rows.valueFitsSpec.pre6 enc Try.prog Try.f4 Rows.valueFitsRow.domain false) (Rows.valueFitsSpec.post enc Try.prog Try.f4 false true false false) := by
  refine returnsInHanded_of_change (C := Try.checked) own started (by kernel_rfl) Try.func4
    (ChangeSpec.witness6 (enc := enc) (C := Try.checked) false ⟨#[], #[T 0 false 0 0 0 false 0 0 ⟨#[]⟩, V 0 0 ⟨#[]⟩], []⟩ 8 (by kernel_rfl) (by kernel_rfl) (by kernel_rfl) (by kernel_rfl)) ?_
  intro W base args ds gs before hval0 hW hcnd _
  have hval : ∀ (j : Nat) t v, Try.f4.params[j]? = some t → args[j]? = some v → Value.okWide Try.prog W .any base t v := hval0
  have hW' := hW
  obtain ⟨p, q, hA0, hV, rfl, hfz, hnd⟩ := hW
  have hA : DataW.TrodAll enc Try.prog W 0 (fun _ => true) true Try.f4.params.toList args.toList ds p := hA0
  rw [Try.params4] at hA hval
  obtain ⟨v0, vs0, d0, ds0, p0, q0, hargs, rfl, rfl, h0, r0⟩ := trodAll_cons hA
  obtain ⟨v1, vs1, d1, ds1, p1, q1, rfl, rfl, rfl, h1, r1⟩ := trodAll_cons r0
  obtain ⟨rfl, rfl, rfl⟩ := trodAll_nil r1
  obtain rfl : args = #[v0, v1] := by cases args; simp_all
  obtain ⟨rfl, rfl⟩ := trodVars_none hV
  have k0 := h0
  have k1 := h1
  have lt0 : ∀ x ∈ p0, x.block < W.heap.size := by obtain ⟨m, hm⟩ := k0; exact DataW.trod_lt m _ _ _ hm
  have lt1 : ∀ x ∈ p1, x.block < W.heap.size := by obtain ⟨m, hm⟩ := k1; exact DataW.trod_lt m _ _ _ hm
  obtain ⟨tk, sub, lo, hi, mx, arr, fr, to, bl, rfl, g1, g2⟩ := open_T (hval 0 40 v0 rfl rfl) h0
  obtain ⟨k, b, s, rfl, hk, b0, b1, hs⟩ := open_V (hval 1 26 v1 rfl rfl) h1
  clear hA0 hval0
  refine (walk tk sub lo hi mx arr fr to bl k b s W b0 b1 hk hs g1 g2).mono fun e W' ⟨he, bel⟩ => ?_
  subst he
  exact ⟨_, rfl, _, _, _, [], _, [], hW', trodAll_mk1 (shut_bool Try.underlying4 _), (trodAll_cons_mk (Below.trod laidOut (by kernel_rfl) (of_decide_eq_true (by kernel_rfl)) k0 bel lt0) (trodAll_cons_mk (Below.trod laidOut (by kernel_rfl) (of_decide_eq_true (by kernel_rfl)) k1 bel lt1) trodAll_mk0)), rfl, bel.frame _, fun h => by cases h⟩
end Go.Proofs.Ytdnpeghdfhjmaaa.LawFits
namespace Go.Proofs.Ytdnpeghdfhjmaaa
/-- THE STATEMENT. -/
theorem valueFits_proved : Rows.ValueFitsSaid :=
  OpenClaim.holds_of_wide 4 Try.f4 rfl rfl rfl rfl rfl rfl rfl ⟨rfl, rfl, rfl, rfl, rfl⟩ rfl rfl rfl rfl rfl (by kernel_rfl) Try.func4 (by kernel_rfl)
    (of_decide_eq_true (by kernel_rfl)) (by unfold Func.isWrapper; first | (rw [if_pos (by decide +kernel)]; kernel_rfl) | (rw [if_neg (by decide +kernel)]; exact ⟨rfl, rfl⟩))
    (fun os started H enc _ => LawFits.lifted os started H enc)
end Go.Proofs.Ytdnpeghdfhjmaaa
