/- ValueReckons is proved: for every operation and any two values the statement's function returns true, and its arguments read as they did; no condition. -/
import Derived.Test.YtmcmpgnkjjcocaaRecX
import Derived.Test.YtmcmpgnkjjcocaaOpen
import Derived.ShutString
import Derived.ChangeOld
import Derived.Below
namespace Go.Proofs.Ytmcmpgnkjjcocaa.LawReckons
set_option linter.unusedVariables false
open Go.ChangeShapes Go.WideShapes Go.ChangeAt Go.RowKit
theorem own : ownKnob Try.prog.godebug = none := by kernel_rfl
theorem laidOut : laidOutB Try.prog = true := by kernel_rfl
/-- What an operation answers: a value and a fault. -/
theorem reck_form (op k b k' c : Int) (s t : ByteArray) : ∃ K B S f, reckR op k b k' c s t = .tuple #[V K B S, .int .i64 f] := by
  unfold reckR nR
  repeat' split
  all_goals exact ⟨_, _, _, _, rfl⟩
set_option maxHeartbeats 1000000 in
theorem same_of (k b : Int) (s : ByteArray) (f : Int) (w : World) :
    Calls Try.prog 6 #[V k b s, .int .i64 f, V k b s, .int .i64 f] w fun e w' => e = .returned (.bool true) ∧ Below w.heap.size w w' := by
  go_enter Try.func6, Try.ntmps6
  go_wp2
  go_ret
  exact ⟨rfl, ((Below.refl _ _).alloc (Nat.le_refl _) _).alloc (by simp) _⟩
theorem lt_next {w w1 : World} {x : Obj} {h : Nat} (hb : Below (w.alloc x).heap.size (w.alloc x) w1) (z : h < w.heap.size + 1) : h < w1.heap.size ∧ h < w1.heap.size + 1 ∧ h < w1.heap.size + 1 + 1 ∧ h < w1.heap.size + 1 + 1 + 1 := by have := hb.size; simp at this; omega
theorem step_two {w w1 : World} {x y : Obj} (hb : Below ((w.alloc x).alloc y).heap.size ((w.alloc x).alloc y) w1) : Below w.heap.size w w1 ∧ w.heap.size < w1.heap.size ∧ w.heap.size < w1.heap.size + 1 ∧ w.heap.size + 1 < w1.heap.size ∧ w.heap.size + 1 < w1.heap.size + 1 := by
  have := hb.size
  simp at this
  exact ⟨(((Below.refl _ _).alloc (Nat.le_refl _) _).alloc (by simp) _).trans (hb.mono (by simp; omega)), by omega, by omega, by omega, by omega⟩
set_option maxHeartbeats 1000000 in
theorem walk (op k b k' c : Int) (s t : ByteArray) (w : World) (h0 : 0 ≤ b) (h1 : b < 18446744073709551616) (hk : 0 ≤ k ∧ k < 256) (hs : s.size ≤ maxLen) (g0 : 0 ≤ c) (g1 : c < 18446744073709551616) (gk : 0 ≤ k' ∧ k' < 256) (gs : t.size ≤ maxLen) :
    Calls Try.prog 3 #[.int .i64 op, V k b s, V k' c t] w fun e w' => e = .returned (.bool true) ∧ Below w.heap.size w w' := by
  have t1 := fun w => Reckon_of op k b k' c s t w h0 h1 hk hs g0 g1 gk gs
  have t2 := fun w => ReckonR_of op k b k' c s t w h0 h1 hk hs g0 g1 gk gs
  obtain ⟨K, B, S, f, e⟩ := reck_form op k b k' c s t
  rw [e] at t1 t2
  have T1 : Hid _ := t1
  have T2 : Hid _ := t2
  clear t1 t2 e
  go_enter Try.func3, Try.ntmps3
  go_wp2_with fail
  refine (T1.out _).mono ?_
  rintro e w1 ⟨rfl, hb⟩
  obtain ⟨hc, hf⟩ := bcell hb
  obtain ⟨B1, y0, y1, y2, y3⟩ := step_two hb
  go_wp2_with fail
  refine (T2.out _).mono ?_
  rintro e w2 ⟨rfl, hb2⟩
  obtain ⟨hc2, hf2⟩ := bcell hb2
  obtain ⟨x0, x1, x2, x3⟩ := lt_next hb2 y1
  obtain ⟨v0, v1, v2, v3⟩ := lt_next hb2 (Nat.lt_succ_self _)
  go_wp2_with fail
  refine (same_of _ _ _ _ _).mono ?_
  rintro e w3 ⟨rfl, hb3⟩
  go_wp2
  go_ret
  refine ⟨rfl, ?_⟩
  have B2 : Below w.heap.size w w2 := (B1.alloc (by omega) _).trans (hb2.mono (by simp; omega))
  exact (B2.alloc (by omega) _).trans (hb3.mono (by simp; omega))
set_option maxRecDepth 100000 in
theorem lifted (os : Os) (started : os.Started) (H : Type) (enc : TypeId × Value → H) :
    ReturnsInHanded {} Try.checked os 3 .any (Rows.valueReckonsSpec.pre6 enc Try.prog Try.f3 Rows.valueReckonsRow.domain false) (Rows.valueReckonsSpec.post enc Try.prog Try.f3 false true false false) := by
  refine returnsInHanded_of_change (C := Try.checked) own started (by kernel_rfl) Try.func3
    (ChangeSpec.witness6 (enc := enc) (C := Try.checked) false ⟨#[], #[.int .i64 0, V 0 0 ⟨#[]⟩, V 0 0 ⟨#[]⟩], []⟩ 8 (by kernel_rfl) (by kernel_rfl) (by kernel_rfl) (by kernel_rfl)) ?_
  intro W base args ds gs before hval0 hW hcnd _
  have hval : ∀ (j : Nat) t v, Try.f3.params[j]? = some t → args[j]? = some v → Value.okWide Try.prog W .any base t v := hval0
  have hW' := hW
  obtain ⟨p, q, hA0, hV, rfl, hfz, hnd⟩ := hW
  have hA : DataW.TrodAll enc Try.prog W 0 (fun _ => true) true Try.f3.params.toList args.toList ds p := hA0
  rw [Try.params3] at hA hval
  obtain ⟨v0, vs0, d0, ds0, p0, q0, hargs, rfl, rfl, h0, r0⟩ := trodAll_cons hA
  obtain ⟨v1, vs1, d1, ds1, p1, q1, rfl, rfl, rfl, h1, r1⟩ := trodAll_cons r0
  obtain ⟨v2, vs2, d2, ds2, p2, q2, rfl, rfl, rfl, h2, r2⟩ := trodAll_cons r1
  obtain ⟨rfl, rfl, rfl⟩ := trodAll_nil r2
  obtain rfl : args = #[v0, v1, v2] := by cases args; simp_all
  obtain ⟨rfl, rfl⟩ := trodVars_none hV
  obtain ⟨op, rfl, rfl, rfl, wop⟩ := open_int Try.underlying3 (hval 0 3 v0 rfl rfl) h0
  have bop := bounds_i64 wop
  have k1 := h1
  have lt1 : ∀ x ∈ p1, x.block < W.heap.size := by obtain ⟨m, hm⟩ := k1; exact DataW.trod_lt m _ _ _ hm
  obtain ⟨k, b, s, rfl, hk, b0, b1, hs⟩ := open_V (hval 1 25 v1 rfl rfl) h1
  have k2 := h2
  have lt2 : ∀ x ∈ p2, x.block < W.heap.size := by obtain ⟨m, hm⟩ := k2; exact DataW.trod_lt m _ _ _ hm
  obtain ⟨k', c, t, rfl, hk', c0, c1, ht⟩ := open_V (hval 2 25 v2 rfl rfl) h2
  clear hA0 hval0
  refine (walk op k b k' c s t W b0 b1 hk hs c0 c1 hk' ht).mono fun e W' ⟨he, bel⟩ => ?_
  subst he
  exact ⟨_, rfl, _, _, _, [], _, [], hW', trodAll_mk1 (shut_bool Try.underlying4 _), (trodAll_cons_mk (shut_int Try.underlying3 wop) (trodAll_cons_mk (Below.trod laidOut (by kernel_rfl) (of_decide_eq_true (by kernel_rfl)) k1 bel lt1) (trodAll_cons_mk (Below.trod laidOut (by kernel_rfl) (of_decide_eq_true (by kernel_rfl)) k2 bel lt2) trodAll_mk0))), rfl, bel.frame _, fun h => by cases h⟩
end Go.Proofs.Ytmcmpgnkjjcocaa.LawReckons
namespace Go.Proofs.Ytmcmpgnkjjcocaa
/-- THE STATEMENT. -/
theorem valueReckons_proved : Rows.ValueReckonsSaid :=
  OpenClaim.holds_of_wide 3 Try.f3 rfl rfl rfl rfl rfl rfl rfl ⟨rfl, rfl, rfl, rfl, rfl⟩ rfl rfl rfl rfl rfl (by kernel_rfl) Try.func3 (by kernel_rfl)
    (of_decide_eq_true (by kernel_rfl)) (by unfold Func.isWrapper; first | (rw [if_pos (by decide +kernel)]; kernel_rfl) | (rw [if_neg (by decide +kernel)]; exact ⟨rfl, rfl⟩))
    (fun os started H enc _ => LawReckons.lifted os started H enc)
end Go.Proofs.Ytmcmpgnkjjcocaa
