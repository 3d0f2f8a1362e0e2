/- WatchNone is proved: for every cell's number, time, value, bytes and truth value the statement's function returns true, and its arguments read as they did; no condition. -/
import Derived.Test.YtiopaokappbelaaGreatWnC
import Derived.ShutString
import Derived.ChangeOld
import Derived.ChangeMaps5
import Derived.ProofKit
import Derived.OpenShut
import Derived.Lib.SmallJoins
namespace Go.Proofs.YtiopaokappbelaaGreat.LawWnone
set_option linter.unusedVariables false
set_option linter.unusedSimpArgs false
open Go.ChangeShapes Go.WideShapes Go.ChangeAt Go.RowKit Go.Joins
theorem own : ownKnob Tryz.prog.godebug = none := by kernel_rfl
theorem laidOut : laidOutB Tryz.prog = true := by kernel_rfl
theorem cellsV' : Tryz.prog.cellsOf 25 = 3 := by kernel_rfl
set_option maxRecDepth 100000 in
theorem open_value {H : Type} {enc : TypeId × Value → H} {w : World} {base b0 : Nat} {spare : Nat → Bool} {held : Bool} {r : Reach} {v : Value} {d : DataW H} {p : List MemPlace}
    (hv : Value.okWide Tryz.prog w r b0 25 v) (h : DataW.Trod enc Tryz.prog w base spare held 25 v d p) :
    ∃ k b s, v = .agg #[.int .u8 k, .int .u64 b, .string s] := by
  obtain ⟨c0, c1, c2, y0, y1, y2, m, rfl, rfl, rfl, hy0, hy1, hy2⟩ := open_agg3 Tryz.underlying25 (by kernel_rfl) cellsV' hv h
  obtain ⟨k, e0, _, wk⟩ := DataW.trod_int Tryz.underlying22 hy0
  obtain ⟨b, e1, _, wb⟩ := DataW.trod_int Tryz.underlying23 hy1
  obtain ⟨s, e2, _, ws⟩ := DataW.trod_string Tryz.underlying9 hy2
  simp at e0 e1 e2
  subst e0 e1 e2
  exact ⟨k, b, s, rfl⟩
theorem nobody_at (p : Value) (w0 : World) (bs : Value) (i n k b : Int) (s : ByteArray) (wm : Bool) (w : World) (h0 : Below w0.heap.size w0 w) (hp : PnN w p) : Calls Tryz.prog 4 #[p, .int .i64 i, .int .i64 n, .agg #[.int .u8 k, .int .u64 b, .string s], bs, .bool wm] w fun e w' => e = .returned (.bool true) ∧ Below w0.heap.size w0 w' ∧ Below w.heap.size w w' :=
  (nobody_of p bs i n k b s wm w hp).mono fun e w' ⟨he, hb⟩ => ⟨he, h0.trans (hb.mono h0.size), hb⟩
theorem nopair_at (p : Value) (w0 : World) (i n : Int) (w : World) (h0 : Below w0.heap.size w0 w) (hp : PnN w p) : Calls Tryz.prog 5 #[p, .int .i64 i, .int .i64 n] w fun e w' => e = .returned (.bool true) ∧ Below w0.heap.size w0 w' :=
  (nopair_of p i n w hp).mono fun e w' ⟨he, hb⟩ => ⟨he, h0.trans (hb.mono h0.size)⟩
theorem vbx_new (w : World) (k b : Int) (s : ByteArray) (u : TypeId) : VBx (w.alloc (.cells #[.int .u8 k, .int .u64 b, .string s] u)) w.heap.size k b s := ⟨by simp, by simp, by simp⟩
set_option maxHeartbeats 4000000 in
theorem walk (i n k b : Int) (s : ByteArray) (bs : Value) (wm : Bool) (w : World) : Calls Tryz.prog 3 #[.int .i64 i, .int .i64 n, .agg #[.int .u8 k, .int .u64 b, .string s], bs, .bool wm] w fun e w' => e = .returned (.bool true) ∧ Below w.heap.size w w' := by
  go_enter Tryz.func3, Tryz.ntmps3
  go_wp2_with fail
  refine (nobody_at _ w _ _ _ _ _ _ _ _ (al_bel _ _) (.inl rfl)).mono ?_
  rintro e w1 ⟨rfl, hb, hv⟩
  have B1 : Hid (Below w.heap.size w w1) := hb
  have V1 : Hid (VBx w1 w.heap.size k b s) := (vbx_new w k b s _).next hv
  clear hb hv
  have A1 : ∀ o, VBx (w1.alloc o) w.heap.size k b s := fun o => V1.out.next (al_bel w1 o)
  have a0 := fun o => (A1 o).1
  have a1 := fun o => (A1 o).2.1
  have a2 := fun o => (A1 o).2.2
  clear A1
  go_wp2_with fail
  refine (nobody_at _ w _ _ _ _ _ _ _ _ (B1.out.alloc B1.out.size _) ?hp).mono ?_
  case hp => exact .inr ⟨_, rfl, by simp⟩
  rintro e w2 ⟨rfl, hb, hv⟩
  have B2 : Hid (Below w.heap.size w w2) := hb
  clear hb hv B1 V1 a0 a1 a2
  go_wp2_with fail
  refine (nopair_at _ w _ _ _ B2.out (.inl rfl)).mono ?_
  rintro e w3 ⟨rfl, hb⟩
  have B3 : Hid (Below w.heap.size w w3) := hb
  clear hb B2
  go_wp2_with fail
  refine (nopair_at _ w _ _ _ (B3.out.alloc B3.out.size _) ?hp).mono ?_
  case hp => exact .inr ⟨_, rfl, by simp⟩
  rintro e w4 ⟨rfl, hb⟩
  have B4 : Hid (Below w.heap.size w w4) := hb
  clear hb B3
  go_wp2
  go_ret
  exact ⟨rfl, B4.out⟩
set_option maxRecDepth 100000 in
theorem lifted (os : Os) (started : os.Started) (H : Type) (enc : TypeId × Value → H) :
    ReturnsInHanded {} Tryz.checked os 3 .any (Rows.watchNoneSpec.pre6 enc Tryz.prog Tryz.f3 Rows.watchNoneRow.domain false) (Rows.watchNoneSpec.post enc Tryz.prog Tryz.f3 false true false false) := by
  refine returnsInHanded_of_change (C := Tryz.checked) own started (by kernel_rfl) Tryz.func3
    (ChangeSpec.witness6 (enc := enc) (C := Tryz.checked) false ⟨#[], #[.int .i64 0, .int .i64 0, .agg #[.int .u8 0, .int .u64 0, .string ⟨#[]⟩], .slice none 0 0, .bool false], []⟩ 8 (by kernel_rfl) (by kernel_rfl) (by kernel_rfl) (by kernel_rfl)) ?_
  intro W base args ds gs before hval0 hW hcnd _
  have hval : ∀ (j : Nat) t v, Tryz.f3.params[j]? = some t → args[j]? = some v → Value.okWide Tryz.prog W .any base t v := hval0
  have hW' := hW
  obtain ⟨p, q, hA0, hV, rfl, hfz, hnd⟩ := hW
  have hA : DataW.TrodAll enc Tryz.prog W 0 (fun _ => true) true Tryz.f3.params.toList args.toList ds p := hA0
  rw [Tryz.params3] at hA hval
  obtain ⟨v0, vs0, d0, ds0, p0, q0, hargs, rfl, rfl, h0, r0⟩ := trodAll_cons hA
  obtain ⟨v1, vs1, d1, ds1, p1, q1, rfl, rfl, rfl, h1, r1⟩ := trodAll_cons r0
  obtain ⟨v2, vs2, d2, ds2, p2, q2, rfl, rfl, rfl, h2, r2⟩ := trodAll_cons r1
  obtain ⟨v3, vs3, d3, ds3, p3, q3, rfl, rfl, rfl, h3, r3⟩ := trodAll_cons r2
  obtain ⟨v4, vs4, d4, ds4, p4, q4, rfl, rfl, rfl, h4, r4⟩ := trodAll_cons r3
  obtain ⟨rfl, rfl, rfl⟩ := trodAll_nil r4
  obtain rfl : args = #[v0, v1, v2, v3, v4] := by cases args; simp_all
  obtain ⟨rfl, rfl⟩ := trodVars_none hV
  obtain ⟨i, rfl, rfl, rfl, wi⟩ := open_int Tryz.underlying3 (hval 0 3 v0 rfl rfl) h0
  obtain ⟨n, rfl, rfl, rfl, wn⟩ := open_int Tryz.underlying3 (hval 1 3 v1 rfl rfl) h1
  have k2 := h2
  have lt2 : ∀ x ∈ p2, x.block < W.heap.size := by obtain ⟨m, hm⟩ := k2; exact DataW.trod_lt m _ _ _ hm
  obtain ⟨k, b, s, rfl⟩ := open_value (hval 2 25 v2 rfl rfl) h2
  have k3 := h3
  have lt3 : ∀ x ∈ p3, x.block < W.heap.size := by obtain ⟨m, hm⟩ := k3; exact DataW.trod_lt m _ _ _ hm
  obtain ⟨wm, rfl, rfl, rfl⟩ := open_bool Tryz.underlying4 (hval 4 4 v4 rfl rfl) h4
  clear hA0 hval0
  refine (walk i n k b s v3 wm W).mono fun e W' ⟨he, bel⟩ => ?_
  subst he
  exact ⟨_, rfl, _, _, _, [], _, [], hW', trodAll_mk1 (shut_bool Tryz.underlying4 _), (trodAll_cons_mk (shut_int Tryz.underlying3 wi) (trodAll_cons_mk (shut_int Tryz.underlying3 wn) (trodAll_cons_mk (Below.trod laidOut (by kernel_rfl) (of_decide_eq_true (by kernel_rfl)) k2 bel lt2) (trodAll_cons_mk (Below.trod laidOut (by kernel_rfl) (of_decide_eq_true (by kernel_rfl)) k3 bel lt3) (trodAll_cons_mk (shut_bool Tryz.underlying4 wm) trodAll_mk0))))), rfl, bel.frame _, fun h => by cases h⟩
end Go.Proofs.YtiopaokappbelaaGreat.LawWnone
namespace Go.Proofs.YtiopaokappbelaaGreat
/-- THE STATEMENT. -/
theorem watchNone_proved : Rows.WatchNoneSaid :=
  OpenClaim.holds_of_wide 3 Tryz.f3 rfl rfl rfl rfl rfl rfl rfl ⟨rfl, rfl, rfl, rfl, rfl⟩ rfl rfl rfl rfl rfl (by kernel_rfl) Tryz.func3 (by kernel_rfl)
    (of_decide_eq_true (by kernel_rfl)) (by unfold Func.isWrapper; first | (rw [if_pos (by decide +kernel)]; kernel_rfl) | (rw [if_neg (by decide +kernel)]; exact ⟨rfl, rfl⟩))
    (fun os started H enc _ => LawWnone.lifted os started H enc)
end Go.Proofs.YtiopaokappbelaaGreat
