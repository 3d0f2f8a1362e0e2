/- ValueTurns is proved: for every operation and value the statement's function returns true, and its arguments read as they did; no condition. -/
import Derived.Test.YtdnpeghdfhjmaaaTurnE
import Derived.Test.YtdnpeghdfhjmaaaOpen
import Derived.ShutString
import Derived.ChangeOld
import Derived.Below
namespace Go.Proofs.Ytdnpeghdfhjmaaa.LawTurns
set_option linter.unusedVariables false
open Go.ChangeShapes Go.WideShapes Go.ChangeAt Go.RowKit
theorem own : ownKnob Try.prog.godebug = none := by kernel_rfl
theorem laidOut : laidOutB Try.prog = true := by kernel_rfl
/-- What a turn answers has one of two forms. -/
theorem turn_form (op k b : Int) (s : ByteArray) : ∃ k' b' s' f, turnR op k b s = .tuple #[V k' b' s', .int .i64 f] := by
  unfold turnR
  repeat' split
  all_goals exact ⟨_, _, _, _, rfl⟩
set_option maxHeartbeats 1000000 in
theorem same_of (k b : Int) (s : ByteArray) (f : Int) (w : World) :
    Calls Try.prog 11 #[V k b s, .int .i64 f, V k b s, .int .i64 f] w fun e w' => e = .returned (.bool true) ∧ Below w.heap.size w w' := by
  go_enter Try.func11, Try.ntmps11
  go_wp2
  go_ret
  exact ⟨rfl, ((Below.refl _ _).alloc (Nat.le_refl _) _).alloc (by simp) _⟩
theorem lt_next {w w1 : World} {x : Obj} {h : Nat} (hb : Below (w.alloc x).heap.size (w.alloc x) w1) (z : h < w.heap.size + 1) : h < w1.heap.size ∧ h < w1.heap.size + 1 ∧ h < w1.heap.size + 1 + 1 ∧ h < w1.heap.size + 1 + 1 + 1 := by have := hb.size; simp at this; omega
set_option maxHeartbeats 1000000 in
theorem walk (op k b : Int) (s : ByteArray) (w : World) (h0 : 0 ≤ b) (h1 : b < 18446744073709551616) (hk : 0 ≤ k ∧ k < 256) (hs : s.size ≤ maxLen) :
    Calls Try.prog 6 #[.int .i64 op, V k b s] w fun e w' => e = .returned (.bool true) ∧ Below w.heap.size w w' := by
  have t1 := Turn_of op k b s
  have t2 := TurnR_of op k b s
  obtain ⟨k', b', s', f, e⟩ := turn_form op k b s
  rw [e] at t1 t2
  have T1 : Hid _ := t1
  have T2 : Hid _ := t2
  clear t1 t2 e
  go_enter Try.func6, Try.ntmps6
  go_wp2_with fail
  refine (T1.out _ h0 h1 hk hs).mono ?_
  rintro e w1 ⟨rfl, hb⟩
  obtain ⟨hc, hf⟩ := bcell hb
  obtain ⟨y0, y1, y2, y3⟩ := lt_next hb (Nat.lt_succ_self _)
  go_wp2_with fail
  refine (T2.out _ h0 h1 hk hs).mono ?_
  rintro e w2 ⟨rfl, hb2⟩
  obtain ⟨hc2, hf2⟩ := bcell hb2
  obtain ⟨x0, x1, x2, x3⟩ := lt_next hb2 y1
  obtain ⟨v0, v1, v2, v3⟩ := lt_next hb2 (Nat.lt_succ_self _)
  go_wp2_with fail
  refine (same_of _ _ _ _ _).mono ?_
  rintro e w3 ⟨rfl, hb3⟩
  go_wp2
  go_ret
  refine ⟨rfl, ?_⟩
  have B1 : Below w.heap.size w w1 := ((Below.refl _ _).alloc (Nat.le_refl _) _).trans (hb.mono (by simp))
  have B2 : Below w.heap.size w w2 := (B1.alloc (by omega) _).trans (hb2.mono (by simp; omega))
  exact (B2.alloc (by omega) _).trans (hb3.mono (by simp; omega))
set_option maxRecDepth 100000 in
theorem lifted (os : Os) (started : os.Started) (H : Type) (enc : TypeId × Value → H) :
    ReturnsInHanded {} Try.checked os 6 .any (Rows.valueTurnsSpec.pre6 enc Try.prog Try.f6 Rows.valueTurnsRow.domain false) (Rows.valueTurnsSpec.post enc Try.prog Try.f6 false true false false) := by
  refine returnsInHanded_of_change (C := Try.checked) own started (by kernel_rfl) Try.func6
    (ChangeSpec.witness6 (enc := enc) (C := Try.checked) false ⟨#[], #[.int .i64 0, V 0 0 ⟨#[]⟩], []⟩ 8 (by kernel_rfl) (by kernel_rfl) (by kernel_rfl) (by kernel_rfl)) ?_
  intro W base args ds gs before hval0 hW hcnd _
  have hval : ∀ (j : Nat) t v, Try.f6.params[j]? = some t → args[j]? = some v → Value.okWide Try.prog W .any base t v := hval0
  have hW' := hW
  obtain ⟨p, q, hA0, hV, rfl, hfz, hnd⟩ := hW
  have hA : DataW.TrodAll enc Try.prog W 0 (fun _ => true) true Try.f6.params.toList args.toList ds p := hA0
  rw [Try.params6] at hA hval
  obtain ⟨v0, vs0, d0, ds0, p0, q0, hargs, rfl, rfl, h0, r0⟩ := trodAll_cons hA
  obtain ⟨v1, vs1, d1, ds1, p1, q1, rfl, rfl, rfl, h1, r1⟩ := trodAll_cons r0
  obtain ⟨rfl, rfl, rfl⟩ := trodAll_nil r1
  obtain rfl : args = #[v0, v1] := by cases args; simp_all
  obtain ⟨rfl, rfl⟩ := trodVars_none hV
  obtain ⟨op, rfl, rfl, rfl, wop⟩ := open_int Try.underlying3 (hval 0 3 v0 rfl rfl) h0
  have bop := bounds_i64 wop
  have k1 := h1
  have lt1 : ∀ x ∈ p1, x.block < W.heap.size := by obtain ⟨m, hm⟩ := k1; exact DataW.trod_lt m _ _ _ hm
  obtain ⟨k, b, s, rfl, hk, b0, b1, hs⟩ := open_V (hval 1 26 v1 rfl rfl) h1
  clear hA0 hval0
  refine (walk op k b s W b0 b1 hk hs).mono fun e W' ⟨he, bel⟩ => ?_
  subst he
  exact ⟨_, rfl, _, _, _, [], _, [], hW', trodAll_mk1 (shut_bool Try.underlying4 _), (trodAll_cons_mk (shut_int Try.underlying3 wop) (trodAll_cons_mk (Below.trod laidOut (by kernel_rfl) (of_decide_eq_true (by kernel_rfl)) k1 bel lt1) trodAll_mk0)), rfl, bel.frame _, fun h => by cases h⟩
end Go.Proofs.Ytdnpeghdfhjmaaa.LawTurns
namespace Go.Proofs.Ytdnpeghdfhjmaaa
/-- THE STATEMENT. -/
theorem valueTurns_proved : Rows.ValueTurnsSaid :=
  OpenClaim.holds_of_wide 6 Try.f6 rfl rfl rfl rfl rfl rfl rfl ⟨rfl, rfl, rfl, rfl, rfl⟩ rfl rfl rfl rfl rfl (by kernel_rfl) Try.func6 (by kernel_rfl)
    (of_decide_eq_true (by kernel_rfl)) (by unfold Func.isWrapper; first | (rw [if_pos (by decide +kernel)]; kernel_rfl) | (rw [if_neg (by decide +kernel)]; exact ⟨rfl, rfl⟩))
    (fun os started H enc _ => LawTurns.lifted os started H enc)
end Go.Proofs.Ytdnpeghdfhjmaaa
