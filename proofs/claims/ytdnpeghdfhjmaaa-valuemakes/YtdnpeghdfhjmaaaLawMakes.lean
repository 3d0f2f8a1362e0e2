/- ValueMakes is proved: for every kind, number, float, text and value the statement's function returns true, and its arguments read as they did; no condition. -/
import Derived.Test.YtdnpeghdfhjmaaaMakesB
import Derived.Test.YtdnpeghdfhjmaaaMakesE
import Derived.Test.YtdnpeghdfhjmaaaOpen
import Derived.ShutString
import Derived.ChangeOld
import Derived.Below
namespace Go.Proofs.Ytdnpeghdfhjmaaa.LawMakes
set_option linter.unusedVariables false
open Go.ChangeShapes Go.WideShapes Go.ChangeAt Go.RowKit
open Go.ChangeMaps (open_string shut_string)
theorem own : ownKnob Try.prog.godebug = none := by kernel_rfl
theorem laidOut : laidOutB Try.prog = true := by kernel_rfl
theorem int_form (k n : Int) : ∃ k' b' s' f, intR k n = .tuple #[V k' b' s', .int .i64 f] := by
  unfold intR
  repeat' split
  all_goals exact ⟨_, _, _, _, rfl⟩
theorem text_form (s : ByteArray) : ∃ k' b' s' f, textR s = .tuple #[V k' b' s', .int .i64 f] := by
  unfold textR
  repeat' split
  all_goals exact ⟨_, _, _, _, rfl⟩
theorem flt_form (k b : Int) (s : ByteArray) : ∃ x p, fltR k b s = .tuple #[.float .f64 x, .bool p] := by
  unfold fltR
  repeat' split
  all_goals exact ⟨_, _, rfl⟩
theorem num_form (k b : Int) (s : ByteArray) : ∃ a p, NV k b s = .tuple #[.int .i64 a, .bool p] := ⟨_, _, rfl⟩
set_option maxHeartbeats 1000000 in
theorem same_of (k b : Int) (s : ByteArray) (f : Int) (w : World) :
    Calls Try.prog 11 #[V k b s, .int .i64 f, V k b s, .int .i64 f] w fun e w' => e = .returned (.bool true) ∧ Below w.heap.size w w' := by
  go_enter Try.func11, Try.ntmps11
  go_wp2
  go_ret
  exact ⟨rfl, ((Below.refl _ _).alloc (Nat.le_refl _) _).alloc (by simp) _⟩
/-- A value lies in a box. -/
structure Lies (W : World) (p : Nat) (k b : Int) (s : ByteArray) : Prop where
  lt : p < W.heap.size
  c0 : W.cell? ⟨p, 0, none⟩ = some (.int .u8 k)
  c1 : W.cell? ⟨p, 1, none⟩ = some (.int .u64 b)
  c2 : W.cell? ⟨p, 2, none⟩ = some (.string s)
theorem Lies.next {W w' : World} {p : Nat} {k b : Int} {s : ByteArray} (h : Lies W p k b s) (hb : Below W.heap.size W w') : Lies w' p k b s :=
  ⟨Nat.lt_of_lt_of_le h.lt hb.size, by rw [hb.cell (p := ⟨p, 0, none⟩) h.lt]; exact h.c0, by rw [hb.cell (p := ⟨p, 1, none⟩) h.lt]; exact h.c1, by rw [hb.cell (p := ⟨p, 2, none⟩) h.lt]; exact h.c2⟩
theorem Lies.alloc {W : World} {p : Nat} {k b : Int} {s : ByteArray} (h : Lies W p k b s) (o : Obj) : Lies (W.alloc o) p k b s := h.next ((Below.refl _ _).alloc (Nat.le_refl _) _)
theorem Lies.new (W : World) (k b : Int) (s : ByteArray) (t : TypeId) : Lies (W.alloc (.cells #[.int .u8 k, .int .u64 b, .string s] t)) W.heap.size k b s :=
  ⟨by simp, by simp, by simp, by simp⟩
set_option maxHeartbeats 4000000 in
theorem walk (k n : Int) (x : Nat) (t : ByteArray) (kv bv : Int) (sv : ByteArray) (w : World) (hk : 0 ≤ k ∧ k < 256) (hn : -9223372036854775808 ≤ n ∧ n < 9223372036854775808) (ht : t.size ≤ maxLen)
    (h0 : 0 ≤ bv) (h1 : bv < 18446744073709551616) (hkv : 0 ≤ kv ∧ kv < 256) (hs : sv.size ≤ maxLen) :
    Calls Try.prog 3 #[.int .u8 k, .int .i64 n, .float .f64 x, .string t, V kv bv sv] w fun e w' => e = .returned (.bool true) ∧ Below w.heap.size w w' := by
  have i1 := Int_of k n
  have i2 := IntR_of k n
  obtain ⟨k1, b1, s1, f1, e1⟩ := int_form k n
  rw [e1] at i1 i2
  have I1 : Hid _ := i1
  have I2 : Hid _ := i2
  have t1 := Text_of t
  have t2 := TextR_of t
  obtain ⟨k2, b2, s2, f2, e2⟩ := text_form t
  rw [e2] at t1 t2
  have T1 : Hid _ := t1
  have T2 : Hid _ := t2
  have g1 := Float_of kv bv sv
  have g2 := FloatR_of kv bv sv
  obtain ⟨y, p, e3⟩ := flt_form kv bv sv
  rw [e3] at g1 g2
  have G1 : Hid _ := g1
  have G2 : Hid _ := g2
  have n1 := Number_of kv bv sv
  have n2 := NumberR_of kv bv sv
  obtain ⟨a, q, e4⟩ := num_form kv bv sv
  rw [e4] at n1 n2
  have N1 : Hid _ := n1
  have N2 : Hid _ := n2
  clear i1 i2 t1 t2 g1 g2 e1 e2 e3 n1 n2 e4
  have hk' : Hid (0 ≤ k ∧ k < 256) := hk
  have hn' : Hid (-9223372036854775808 ≤ n ∧ n < 9223372036854775808) := hn
  have ht' : Hid (t.size ≤ maxLen) := ht
  have h0' : Hid (0 ≤ bv) := h0
  have h1' : Hid (bv < 18446744073709551616) := h1
  have hkv' : Hid (0 ≤ kv ∧ kv < 256) := hkv
  have hs' : Hid (sv.size ≤ maxLen) := hs
  clear hk hn ht h0 h1 hkv hs
  go_enter Try.func3, Try.ntmps3
  go_wp2_with fail
  refine (I1.out _ hk'.out hn'.out).mono ?_
  rintro e w1 ⟨rfl, hb⟩
  have B : Hid (Below w.heap.size w w1) := ((Below.refl _ _).alloc (Nat.le_refl _) _).trans (hb.mono (by simp))
  have A0 : Hid (Lies w1 w.heap.size kv bv sv) := (Lies.new w kv bv sv _).next hb
  clear hb
  go_wp2_with fail
  refine (I2.out _ hk'.out hn'.out).mono ?_
  rintro e w2 ⟨rfl, hb⟩
  have B2 : Hid (Below w.heap.size w w2) := ((B.out).alloc (Nat.le_of_lt A0.out.lt) _).trans (hb.mono (by have := A0.out.lt; simp; omega))
  have A0' : Hid (Lies w2 w.heap.size kv bv sv) := (A0.out.alloc _).next hb
  have A1 : Hid (Lies w2 w1.heap.size k1 b1 s1) := (Lies.new w1 k1 b1 s1 _).next hb
  clear hb B A0
  go_wp2_with fail
  refine (T1.out _ ht'.out).mono ?_
  rintro e w3 ⟨rfl, hb⟩
  have B : Hid (Below w.heap.size w w3) := ((B2.out).alloc (Nat.le_of_lt A0'.out.lt) _).trans (hb.mono (by have := A0'.out.lt; simp; omega))
  have A0 : Hid (Lies w3 w.heap.size kv bv sv) := (A0'.out.alloc _).next hb
  have A1' : Hid (Lies w3 w1.heap.size k1 b1 s1) := (A1.out.alloc _).next hb
  have A2 : Hid (Lies w3 w2.heap.size k1 b1 s1) := (Lies.new w2 k1 b1 s1 _).next hb
  clear hb B2 A0' A1
  go_wp2_with fail
  refine (T2.out _ ht'.out).mono ?_
  rintro e w4 ⟨rfl, hb⟩
  have B2 : Hid (Below w.heap.size w w4) := ((B.out).alloc (Nat.le_of_lt A0.out.lt) _).trans (hb.mono (by have := A0.out.lt; simp; omega))
  have A0' : Hid (Lies w4 w.heap.size kv bv sv) := (A0.out.alloc _).next hb
  have A1 : Hid (Lies w4 w1.heap.size k1 b1 s1) := (A1'.out.alloc _).next hb
  have A2' : Hid (Lies w4 w2.heap.size k1 b1 s1) := (A2.out.alloc _).next hb
  have A3 : Hid (Lies w4 w3.heap.size k2 b2 s2) := (Lies.new w3 k2 b2 s2 _).next hb
  clear hb B A0 A1' A2
  obtain ⟨l1, c10, c11, c12⟩ := A1.out
  obtain ⟨l2, c20, c21, c22⟩ := A2'.out
  go_wp2_with fail
  refine (same_of _ _ _ _ _).mono ?_
  rintro e w5 ⟨rfl, hb⟩
  have B : Hid (Below w.heap.size w w5) := ((B2.out).alloc (Nat.le_of_lt A0'.out.lt) _).trans (hb.mono (by have := A0'.out.lt; simp; omega))
  have A0 : Hid (Lies w5 w.heap.size kv bv sv) := (A0'.out.alloc _).next hb
  obtain ⟨l3, c30, c31, c32⟩ := (A3.out.alloc _).next hb
  obtain ⟨l4, c40, c41, c42⟩ := (Lies.new w4 k2 b2 s2 _).next hb
  clear hb B2 A0' A1 A2' A3 l1 c10 c11 c12 l2 c20 c21 c22
  go_wp2_with fail
  refine (same_of _ _ _ _ _).mono ?_
  rintro e w6 ⟨rfl, hb⟩
  have B2 : Hid (Below w.heap.size w w6) := (B.out).trans (hb.mono (Nat.le_of_lt A0.out.lt))
  have A0' : Hid (Lies w6 w.heap.size kv bv sv) := A0.out.next hb
  clear hb B A0 l3 c30 c31 c32 l4 c40 c41 c42
  go_wp2_with fail
  refine (Zero_of _ _).mono ?_
  rintro e w7 ⟨rfl, hb⟩
  have B : Hid (Below w.heap.size w w7) := (B2.out).trans (hb.mono (Nat.le_of_lt A0'.out.lt))
  have A0 : Hid (Lies w7 w.heap.size kv bv sv) := A0'.out.next hb
  clear hb B2 A0'
  go_wp2_with fail
  refine (ZeroR_of _ _).mono ?_
  rintro e w8 ⟨rfl, hb⟩
  have B2 : Hid (Below w.heap.size w w8) := (B.out).trans (hb.mono (Nat.le_of_lt A0.out.lt))
  have A0' : Hid (Lies w8 w.heap.size kv bv sv) := A0.out.next hb
  clear hb B A0
  go_wp2_with fail
  refine (Lreal_of _ _).mono ?_
  rintro e w9 ⟨rfl, hb⟩
  have B : Hid (Below w.heap.size w w9) := (B2.out).trans (hb.mono (Nat.le_of_lt A0'.out.lt))
  have A0 : Hid (Lies w9 w.heap.size kv bv sv) := A0'.out.next hb
  clear hb B2 A0'
  go_wp2_with fail
  refine (LrealR_of _ _).mono ?_
  rintro e w10 ⟨rfl, hb⟩
  have B2 : Hid (Below w.heap.size w w10) := (B.out).trans (hb.mono (Nat.le_of_lt A0.out.lt))
  have A0' : Hid (Lies w10 w.heap.size kv bv sv) := A0.out.next hb
  clear hb B A0
  obtain ⟨l11, c0_11, c1_11, c2_11⟩ := A0'.out
  go_wp2_with fail
  refine (N1.out _ h0'.out h1'.out hkv'.out hs'.out).mono ?_
  rintro e w11 ⟨rfl, hb⟩
  have B : Hid (Below w.heap.size w w11) := (B2.out).trans (hb.mono (Nat.le_of_lt A0'.out.lt))
  have A0 : Hid (Lies w11 w.heap.size kv bv sv) := A0'.out.next hb
  clear hb B2 A0' l11 c0_11 c1_11 c2_11
  obtain ⟨l12, c0_12, c1_12, c2_12⟩ := A0.out
  go_wp2_with fail
  refine (N2.out _ h0'.out h1'.out hkv'.out hs'.out).mono ?_
  rintro e w12 ⟨rfl, hb⟩
  have B2 : Hid (Below w.heap.size w w12) := (B.out).trans (hb.mono (Nat.le_of_lt A0.out.lt))
  have A0' : Hid (Lies w12 w.heap.size kv bv sv) := A0.out.next hb
  clear hb B A0 l12 c0_12 c1_12 c2_12
  obtain ⟨l13, c0_13, c1_13, c2_13⟩ := A0'.out
  go_wp2_with fail
  refine (G1.out _ h0'.out h1'.out hkv'.out hs'.out).mono ?_
  rintro e w13 ⟨rfl, hb⟩
  have B : Hid (Below w.heap.size w w13) := (B2.out).trans (hb.mono (Nat.le_of_lt A0'.out.lt))
  have A0 : Hid (Lies w13 w.heap.size kv bv sv) := A0'.out.next hb
  clear hb B2 A0' l13 c0_13 c1_13 c2_13
  obtain ⟨l14, c0_14, c1_14, c2_14⟩ := A0.out
  go_wp2_with fail
  refine (G2.out _ h0'.out h1'.out hkv'.out hs'.out).mono ?_
  rintro e w14 ⟨rfl, hb⟩
  have B2 : Hid (Below w.heap.size w w14) := (B.out).trans (hb.mono (Nat.le_of_lt A0.out.lt))
  have A0' : Hid (Lies w14 w.heap.size kv bv sv) := A0.out.next hb
  clear hb B A0 l14 c0_14 c1_14 c2_14
  go_wp2_with fail
  refine (Bool_of _ _).mono ?_
  rintro e w15 ⟨rfl, hb⟩
  have B : Hid (Below w.heap.size w w15) := (B2.out).trans (hb.mono (Nat.le_of_lt A0'.out.lt))
  have A0 : Hid (Lies w15 w.heap.size kv bv sv) := A0'.out.next hb
  clear hb B2 A0'
  go_wp2_with fail
  refine (BoolR_of _ _).mono ?_
  rintro e w16 ⟨rfl, hb⟩
  have B2 : Hid (Below w.heap.size w w16) := (B.out).trans (hb.mono (Nat.le_of_lt A0.out.lt))
  have A0' : Hid (Lies w16 w.heap.size kv bv sv) := A0.out.next hb
  clear hb B A0
  go_wp2_with fail
  refine (LrealR_of _ _).mono ?_
  rintro e w17 ⟨rfl, hb⟩
  have B : Hid (Below w.heap.size w w17) := (B2.out).trans (hb.mono (Nat.le_of_lt A0'.out.lt))
  have A0 : Hid (Lies w17 w.heap.size kv bv sv) := A0'.out.next hb
  clear hb B2 A0'
  go_wp2_with fail
  refine (LrealR_of _ _).mono ?_
  rintro e w18 ⟨rfl, hb⟩
  have B2 : Hid (Below w.heap.size w w18) := (B.out).trans (hb.mono (Nat.le_of_lt A0.out.lt))
  have A0' : Hid (Lies w18 w.heap.size kv bv sv) := A0.out.next hb
  clear hb B A0
  go_wp2
  go_ret
  exact ⟨by simp, B2.out⟩
set_option maxRecDepth 100000 in
theorem lifted (os : Os) (started : os.Started) (H : Type) (enc : TypeId × Value → H) :
    ReturnsInHanded {} Try.checked os 3 .any (Rows.valueMakesSpec.pre6 enc Try.prog Try.f3 Rows.valueMakesRow.domain false) (Rows.valueMakesSpec.post enc Try.prog Try.f3 false true false false) := by
  refine returnsInHanded_of_change (C := Try.checked) own started (by kernel_rfl) Try.func3
    (ChangeSpec.witness6 (enc := enc) (C := Try.checked) false ⟨#[], #[.int .u8 0, .int .i64 0, .float .f64 0, .string ⟨#[]⟩, V 0 0 ⟨#[]⟩], []⟩ 8 (by kernel_rfl) (by kernel_rfl) (by kernel_rfl) (by kernel_rfl)) ?_
  intro W base args ds gs before hval0 hW hcnd _
  have hval : ∀ (j : Nat) t v, Try.f3.params[j]? = some t → args[j]? = some v → Value.okWide Try.prog W .any base t v := hval0
  have hW' := hW
  obtain ⟨p, q, hA0, hV, rfl, hfz, hnd⟩ := hW
  have hA : DataW.TrodAll enc Try.prog W 0 (fun _ => true) true Try.f3.params.toList args.toList ds p := hA0
  rw [Try.params3] at hA hval
  obtain ⟨v0, vs0, d0, ds0, p0, q0, hargs, rfl, rfl, h0, r0⟩ := trodAll_cons hA
  obtain ⟨v1, vs1, d1, ds1, p1, q1, rfl, rfl, rfl, h1, r1⟩ := trodAll_cons r0
  obtain ⟨v2, vs2, d2, ds2, p2, q2, rfl, rfl, rfl, h2, r2⟩ := trodAll_cons r1
  obtain ⟨v3, vs3, d3, ds3, p3, q3, rfl, rfl, rfl, h3, r3⟩ := trodAll_cons r2
  obtain ⟨v4, vs4, d4, ds4, p4, q4, rfl, rfl, rfl, h4, r4⟩ := trodAll_cons r3
  obtain ⟨rfl, rfl, rfl⟩ := trodAll_nil r4
  obtain rfl : args = #[v0, v1, v2, v3, v4] := by cases args; simp_all
  obtain ⟨rfl, rfl⟩ := trodVars_none hV
  obtain ⟨k, rfl, rfl, rfl, wk⟩ := open_int Try.underlying22 (hval 0 22 v0 rfl rfl) h0
  have bk := bounds_u8 wk
  obtain ⟨n, rfl, rfl, rfl, wn⟩ := open_int Try.underlying3 (hval 1 3 v1 rfl rfl) h1
  have bn := bounds_i64 wn
  obtain ⟨x, rfl, rfl, rfl, wx⟩ := open_float Try.underlying23 (hval 2 23 v2 rfl rfl) h2
  obtain ⟨t, rfl, rfl, rfl, ht⟩ := open_string Try.underlying9 (hval 3 9 v3 rfl rfl) h3
  have k4 := h4
  have lt4 : ∀ x ∈ p4, x.block < W.heap.size := by obtain ⟨m, hm⟩ := k4; exact DataW.trod_lt m _ _ _ hm
  obtain ⟨kv, bv, sv, rfl, hkv, bv0, bv1, hsv⟩ := open_V (hval 4 26 v4 rfl rfl) h4
  clear hA0 hval0
  refine (walk k n x t kv bv sv W (by omega) (by omega) ht bv0 bv1 hkv hsv).mono fun e W' ⟨he, bel⟩ => ?_
  subst he
  exact ⟨_, rfl, _, _, _, [], _, [], hW', trodAll_mk1 (shut_bool Try.underlying4 _), (trodAll_cons_mk (shut_int Try.underlying22 wk) (trodAll_cons_mk (shut_int Try.underlying3 wn) (trodAll_cons_mk (shut_float Try.underlying23 wx) (trodAll_cons_mk (shut_string Try.underlying9 ht) (trodAll_cons_mk (Below.trod laidOut (by kernel_rfl) (of_decide_eq_true (by kernel_rfl)) k4 bel lt4) trodAll_mk0))))), rfl, bel.frame _, fun h => by cases h⟩
end Go.Proofs.Ytdnpeghdfhjmaaa.LawMakes
namespace Go.Proofs.Ytdnpeghdfhjmaaa
/-- THE STATEMENT. -/
theorem valueMakes_proved : Rows.ValueMakesSaid :=
  OpenClaim.holds_of_wide 3 Try.f3 rfl rfl rfl rfl rfl rfl rfl ⟨rfl, rfl, rfl, rfl, rfl⟩ rfl rfl rfl rfl rfl (by kernel_rfl) Try.func3 (by kernel_rfl)
    (of_decide_eq_true (by kernel_rfl)) (by unfold Func.isWrapper; first | (rw [if_pos (by decide +kernel)]; kernel_rfl) | (rw [if_neg (by decide +kernel)]; exact ⟨rfl, rfl⟩))
    (fun os started H enc _ => LawMakes.lifted os started H enc)
end Go.Proofs.Ytdnpeghdfhjmaaa
