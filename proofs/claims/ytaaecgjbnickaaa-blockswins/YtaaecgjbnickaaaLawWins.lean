/- BlocksWins is proved: for every two truth values the statement's function returns true; no condition. -/
import Derived.Test.YtaaecgjbnickaaaBlkZ
import Derived.Deep.Light
import Derived.ProofKit
import Derived.OpenShut
import Derived.Lib.SmallJoins
namespace Go.Proofs.Ytaaecgjbnickaaa.LawWins
set_option linter.unusedVariables false
open Go.RowKit Go.Proofs.Ytaaecgjbnickaaa Go.ChangeShapes Go.WideShapes Go.ChangeAt Go.Joins
theorem own : ownKnob Try.prog.godebug = none := by kernel_rfl
theorem laidOut : laidOutB Try.prog = true := by kernel_rfl
theorem ovr3 (x y q : Bool) (i : Nat) (hi : i < 3) : ovr 2 (bits3 x y false) (bits3 false false q) i = bits3 x y q i := by
  match i, hi with
  | 0, _ => rfl
  | 1, _ => rfl
  | 2, _ => rfl
theorem ok3 (x y q : Bool) (i : Nat) (hi : i < 3) : VlOk (ovr 2 (bits3 x y false) (bits3 false false q) i) := by rw [ovr3 x y q i hi]; exact bits3_ok x y q i
theorem tk3 (x y q : Bool) : tkB ks3 (ovr 2 (bits3 x y false) (bits3 false false q)) 3 = true :=
  tk_bits (forall3 ⟨x, rfl, rfl⟩ ⟨y, rfl, rfl⟩ ⟨q, rfl, rfl⟩)
theorem win1 (x y q : Bool) : vlL ks3 (nxt 1 (clN 0) (nmL 3 (ovr 2 (bits3 x y false) (bits3 false false q)))) 2 = bitV (x || (q && !y)) := by
  cases x <;> cases y <;> cases q <;> rfl
theorem win2 (x y q : Bool) : vlL ks3 (nxt 2 (clN 0) (nmL 3 (ovr 2 (bits3 x y false) (bits3 false false q)))) 2 = bitV (!y && (x || q)) := by
  cases x <;> cases y <;> cases q <;> rfl
/-- The third value of a row of three. -/
structure Th (w : World) (g : Nat) (p : Bool) : Prop where
  c0 : w.cell? ⟨g, 6, none⟩ = some (.int .u8 1)
  c1 : w.cell? ⟨g, 7, none⟩ = some (.int .u64 (tN p))
  c2 : w.cell? ⟨g, 8, none⟩ = some (.string ⟨#[]⟩)
theorem Th.of {w : World} {g : Nat} {v : Nat → Vl} {p : Bool} (h : Row3 w g 3 v) (e : v 2 = bitV p) : Th w g p := by
  obtain ⟨A, h1, h2, h3⟩ := h
  obtain ⟨a, b, c⟩ := h3 2 (by decide)
  rw [e] at a b c
  exact ⟨by simp [World.cell?, h1]; simpa [bitV] using a, by simp [World.cell?, h1]; simpa [bitV] using b, by simp [World.cell?, h1]; simpa [bitV] using c⟩
theorem Th.below {w w' : World} {g : Nat} {p : Bool} (h : Th w g p) (hb : Below w.heap.size w w') : Th w' g p := by
  have z := block_lt_of_cell h.c0
  exact ⟨(hb.cell (p := ⟨g, 6, none⟩) z).trans h.c0, (hb.cell (p := ⟨g, 7, none⟩) z).trans h.c1, (hb.cell (p := ⟨g, 8, none⟩) z).trans h.c2⟩
/-- Two BOOLs in a block that was made last. -/
theorem lit2 (w : World) (x y : Bool) : VsAt (w.alloc (.cells #[.int .u8 1, .int .u64 (tN x), .string ⟨#[]⟩, .int .u8 1, .int .u64 (tN y), .string ⟨#[]⟩] 27)) ⟨w.heap.size, 0, none⟩ 2 (bits3 x y false) := by
  have : Row3 (w.alloc (.cells #[.int .u8 1, .int .u64 (tN x), .string ⟨#[]⟩, .int .u8 1, .int .u64 (tN y), .string ⟨#[]⟩] 27)) w.heap.size 2 (bits3 x y false) := by
    refine ⟨_, heap_alloc_last w _, by simp, fun i hi => ?_⟩
    match i, hi with
    | 0, _ => exact ⟨rfl, rfl, rfl⟩
    | 1, _ => exact ⟨rfl, rfl, rfl⟩
  exact this.at
theorem lit3 (w : World) (x y z : Bool) : VsAt (w.alloc (.cells #[.int .u8 1, .int .u64 (tN x), .string ⟨#[]⟩, .int .u8 1, .int .u64 (tN y), .string ⟨#[]⟩, .int .u8 1, .int .u64 (tN z), .string ⟨#[]⟩] 27)) ⟨w.heap.size, 0, none⟩ 3 (bits3 x y z) := by
  have : Row3 (w.alloc (.cells #[.int .u8 1, .int .u64 (tN x), .string ⟨#[]⟩, .int .u8 1, .int .u64 (tN y), .string ⟨#[]⟩, .int .u8 1, .int .u64 (tN z), .string ⟨#[]⟩] 27)) w.heap.size 3 (bits3 x y z) := by
    refine ⟨_, heap_alloc_last w _, by simp, fun i hi => ?_⟩
    match i, hi with
    | 0, _ => exact ⟨rfl, rfl, rfl⟩
    | 1, _ => exact ⟨rfl, rfl, rfl⟩
    | 2, _ => exact ⟨rfl, rfl, rfl⟩
  exact this.at
/-- A step of SR or RS over three cells whose third one is q. -/
theorem sr_of (x y q : Bool) (a b : Addr) (cap capm : Nat) (w : World) (hv : VsAt w a 3 (bits3 false false q)) (hu : VsAt w b 2 (bits3 x y false)) :
    Calls Try.prog 10 #[.int .i64 1, .slice (some a) 3 cap, .int .i64 0, .slice (some b) 2 capm] w fun e w' => ∃ g, e = .returned (NS g 3) ∧ Th w' g (x || (q && !y)) ∧ Below w.heap.size w w' :=
  (step_of 1 3 2 ks3 0 a b cap capm _ _ w (fun a cap v w h1 h2 h3 => Step_1 a cap v 0 w h1 h2 h3) hv hu (by decide) (by decide) (by decide) (ok3 x y q) (tk3 x y q)).mono (by
    rintro e w' ⟨g, rfl, _, hr, hb⟩
    exact ⟨g, rfl, Th.of hr (win1 x y q), hb⟩)
theorem rs_of (x y q : Bool) (a b : Addr) (cap capm : Nat) (w : World) (hv : VsAt w a 3 (bits3 false false q)) (hu : VsAt w b 2 (bits3 x y false)) :
    Calls Try.prog 10 #[.int .i64 2, .slice (some a) 3 cap, .int .i64 0, .slice (some b) 2 capm] w fun e w' => ∃ g, e = .returned (NS g 3) ∧ Th w' g (!y && (x || q)) ∧ Below w.heap.size w w' :=
  (step_of 2 3 2 ks3 0 a b cap capm _ _ w (fun a cap v w h1 h2 h3 => Step_2 a cap v 0 w h1 h2 h3) hv hu (by decide) (by decide) (by decide) (ok3 x y q) (tk3 x y q)).mono (by
    rintro e w' ⟨g, rfl, _, hr, hb⟩
    exact ⟨g, rfl, Th.of hr (win2 x y q), hb⟩)
theorem below_alloc (w : World) (o : Obj) : Below w.heap.size w (w.alloc o) := (Below.refl _ _).alloc (Nat.le_refl _) o
theorem eqv (p : Bool) (w : World) : (binOp .eql 27 (V 1 (tN p) ⟨#[]⟩) (V 1 (tN p) ⟨#[]⟩)).run Try.prog w = .ok (.bool true) w := by cases p <;> kernel_rfl
set_option maxHeartbeats 4000000 in
theorem walk (q o : Bool) (w : World) : Calls Try.prog 4 #[.bool q, .bool o] w fun e w' => e = .returned (.bool true) ∧ Below w.heap.size w w' := by
  go_enter Try.func4, Try.ntmps4
  have HB : Below w.heap.size w w := Below.refl _ _
  go_wp2_with fail
  refine (bit_of _ _).mono ?_
  rintro e w1 ⟨rfl, hb⟩
  replace HB : Below w.heap.size w w1 := HB.trans (hb.mono HB.size)
  clear hb
  go_wp2_with fail
  refine (bit_of _ _).mono ?_
  rintro e w2 ⟨rfl, hb⟩
  replace HB : Below w.heap.size w w2 := HB.trans (hb.mono HB.size)
  clear hb
  go_wp2_with fail
  refine (bit_of _ _).mono ?_
  rintro e w3 ⟨rfl, hb⟩
  replace HB : Below w.heap.size w w3 := HB.trans (hb.mono HB.size)
  clear hb
  have CC := lit3 w3 false false q
  replace HB := HB.alloc HB.size (.cells #[.int .u8 1, .int .u64 (tN false), .string ⟨#[]⟩, .int .u8 1, .int .u64 (tN false), .string ⟨#[]⟩, .int .u8 1, .int .u64 (tN q), .string ⟨#[]⟩] 27)
  go_wp2_with fail
  refine (bit_of _ _).mono ?_
  rintro e w4 ⟨rfl, hb⟩
  replace CC := CC.below hb
  replace HB : Below w.heap.size w w4 := HB.trans (hb.mono HB.size)
  clear hb
  go_wp2_with fail
  refine (bit_of _ _).mono ?_
  rintro e w5 ⟨rfl, hb⟩
  replace CC := CC.below hb
  replace HB : Below w.heap.size w w5 := HB.trans (hb.mono HB.size)
  clear hb
  have UU := lit2 w5 true o
  replace CC := CC.below (below_alloc w5 (.cells #[.int .u8 1, .int .u64 (tN true), .string ⟨#[]⟩, .int .u8 1, .int .u64 (tN o), .string ⟨#[]⟩] 27))
  have HB2 : Below w.heap.size w (w5.alloc (.cells #[.int .u8 1, .int .u64 (tN true), .string ⟨#[]⟩, .int .u8 1, .int .u64 (tN o), .string ⟨#[]⟩] 27)) := HB.alloc HB.size _
  go_wp2_with fail
  refine (sr_of true o q _ _ _ _ _ CC UU).mono ?_
  rintro e w6 ⟨gT1, rfl, T1, hb⟩
  replace CC := CC.below hb
  replace HB : Below w.heap.size w w6 := HB2.trans (hb.mono HB2.size)
  clear hb UU HB2
  go_wp2_with fail
  refine (bit_of _ _).mono ?_
  rintro e w7 ⟨rfl, hb⟩
  replace CC := CC.below hb
  replace T1 := T1.below hb
  replace HB : Below w.heap.size w w7 := HB.trans (hb.mono HB.size)
  clear hb
  go_wp2_with fail
  refine (bit_of _ _).mono ?_
  rintro e w8 ⟨rfl, hb⟩
  replace CC := CC.below hb
  replace T1 := T1.below hb
  replace HB : Below w.heap.size w w8 := HB.trans (hb.mono HB.size)
  clear hb
  have UU := lit2 w8 o true
  replace CC := CC.below (below_alloc w8 (.cells #[.int .u8 1, .int .u64 (tN o), .string ⟨#[]⟩, .int .u8 1, .int .u64 (tN true), .string ⟨#[]⟩] 27))
  replace T1 := T1.below (below_alloc w8 (.cells #[.int .u8 1, .int .u64 (tN o), .string ⟨#[]⟩, .int .u8 1, .int .u64 (tN true), .string ⟨#[]⟩] 27))
  have HB2 : Below w.heap.size w (w8.alloc (.cells #[.int .u8 1, .int .u64 (tN o), .string ⟨#[]⟩, .int .u8 1, .int .u64 (tN true), .string ⟨#[]⟩] 27)) := HB.alloc HB.size _
  go_wp2_with fail
  refine (rs_of o true q _ _ _ _ _ CC UU).mono ?_
  rintro e w9 ⟨gT2, rfl, T2, hb⟩
  replace CC := CC.below hb
  replace T1 := T1.below hb
  replace HB : Below w.heap.size w w9 := HB2.trans (hb.mono HB2.size)
  clear hb UU HB2
  go_wp2_with fail
  refine (bit_of _ _).mono ?_
  rintro e w10 ⟨rfl, hb⟩
  replace CC := CC.below hb
  replace T1 := T1.below hb
  replace T2 := T2.below hb
  replace HB : Below w.heap.size w w10 := HB.trans (hb.mono HB.size)
  clear hb
  go_wp2_with fail
  refine (bit_of _ _).mono ?_
  rintro e w11 ⟨rfl, hb⟩
  replace CC := CC.below hb
  replace T1 := T1.below hb
  replace T2 := T2.below hb
  replace HB : Below w.heap.size w w11 := HB.trans (hb.mono HB.size)
  clear hb
  have UU := lit2 w11 false false
  replace CC := CC.below (below_alloc w11 (.cells #[.int .u8 1, .int .u64 (tN false), .string ⟨#[]⟩, .int .u8 1, .int .u64 (tN false), .string ⟨#[]⟩] 27))
  replace T1 := T1.below (below_alloc w11 (.cells #[.int .u8 1, .int .u64 (tN false), .string ⟨#[]⟩, .int .u8 1, .int .u64 (tN false), .string ⟨#[]⟩] 27))
  replace T2 := T2.below (below_alloc w11 (.cells #[.int .u8 1, .int .u64 (tN false), .string ⟨#[]⟩, .int .u8 1, .int .u64 (tN false), .string ⟨#[]⟩] 27))
  have HB2 : Below w.heap.size w (w11.alloc (.cells #[.int .u8 1, .int .u64 (tN false), .string ⟨#[]⟩, .int .u8 1, .int .u64 (tN false), .string ⟨#[]⟩] 27)) := HB.alloc HB.size _
  go_wp2_with fail
  refine (sr_of false false q _ _ _ _ _ CC UU).mono ?_
  rintro e w12 ⟨gT3, rfl, T3, hb⟩
  replace CC := CC.below hb
  replace T1 := T1.below hb
  replace T2 := T2.below hb
  replace HB : Below w.heap.size w w12 := HB2.trans (hb.mono HB2.size)
  clear hb UU HB2
  go_wp2_with fail
  refine (bit_of _ _).mono ?_
  rintro e w13 ⟨rfl, hb⟩
  replace CC := CC.below hb
  replace T1 := T1.below hb
  replace T2 := T2.below hb
  replace T3 := T3.below hb
  replace HB : Below w.heap.size w w13 := HB.trans (hb.mono HB.size)
  clear hb
  go_wp2_with fail
  refine (bit_of _ _).mono ?_
  rintro e w14 ⟨rfl, hb⟩
  replace CC := CC.below hb
  replace T1 := T1.below hb
  replace T2 := T2.below hb
  replace T3 := T3.below hb
  replace HB : Below w.heap.size w w14 := HB.trans (hb.mono HB.size)
  clear hb
  have UU := lit2 w14 false false
  replace CC := CC.below (below_alloc w14 (.cells #[.int .u8 1, .int .u64 (tN false), .string ⟨#[]⟩, .int .u8 1, .int .u64 (tN false), .string ⟨#[]⟩] 27))
  replace T1 := T1.below (below_alloc w14 (.cells #[.int .u8 1, .int .u64 (tN false), .string ⟨#[]⟩, .int .u8 1, .int .u64 (tN false), .string ⟨#[]⟩] 27))
  replace T2 := T2.below (below_alloc w14 (.cells #[.int .u8 1, .int .u64 (tN false), .string ⟨#[]⟩, .int .u8 1, .int .u64 (tN false), .string ⟨#[]⟩] 27))
  replace T3 := T3.below (below_alloc w14 (.cells #[.int .u8 1, .int .u64 (tN false), .string ⟨#[]⟩, .int .u8 1, .int .u64 (tN false), .string ⟨#[]⟩] 27))
  have HB2 : Below w.heap.size w (w14.alloc (.cells #[.int .u8 1, .int .u64 (tN false), .string ⟨#[]⟩, .int .u8 1, .int .u64 (tN false), .string ⟨#[]⟩] 27)) := HB.alloc HB.size _
  go_wp2_with fail
  refine (rs_of false false q _ _ _ _ _ CC UU).mono ?_
  rintro e w15 ⟨gT4, rfl, T4, hb⟩
  replace CC := CC.below hb
  replace T1 := T1.below hb
  replace T2 := T2.below hb
  replace T3 := T3.below hb
  replace HB : Below w.heap.size w w15 := HB2.trans (hb.mono HB2.size)
  clear hb UU HB2
  have sn := fun g w => sl_nil ⟨g, 0, none⟩ 3 3 w
  have ev := eqv
  have T1' : Th w15 gT1 true := by simpa using T1
  have T2' : Th w15 gT2 false := by simpa using T2
  have T3' : Th w15 gT3 q := by simpa using T3
  have T4' : Th w15 gT4 q := by simpa using T4
  have z1 := block_lt_of_cell T1'.c0
  have z2 := block_lt_of_cell T2'.c0
  have z3 := block_lt_of_cell T3'.c0
  have z4 := block_lt_of_cell T4'.c0
  clear T1 T2 T3 T4 CC
  obtain ⟨a0, a1, a2⟩ := T1'
  obtain ⟨b0, b1, b2⟩ := T2'
  obtain ⟨c0, c1, c2⟩ := T3'
  obtain ⟨d0, d1, d2⟩ := T4'
  have HB' : Hid (Below w.heap.size w w15) := HB
  clear HB
  go_wp2_with fail
  refine wp_region_sub2 (by kernel_rfl) (by kernel_rfl) ?_
  intro cx
  repeat (first | go_big_quiet_skip | (go_big_quiet_want; go_big_quiet_op; first | go_big_quiet_on | (refine ⟨_, fun _ => rfl, ?_⟩; go_big_quiet_on) | go_big_quiet_call (first | (go_at_call 9; exact calls_sub (bit_of _ _)))))
  refine wpQuiet_nil ?_
  rintro _ ⟨y, rfl⟩
  clear cx
  go_wp2
  go_ret
  exact ⟨rfl, HB'.out.trans (y.h.mono HB'.out.size)⟩
set_option maxRecDepth 100000 in
theorem lifted (os : Os) (started : os.Started) (H : Type) (enc : TypeId × Value → H) :
    ReturnsInHanded {} Try.checked os 4 .any (Rows.blocksWinsSpec.pre6 enc Try.prog Try.f4 Rows.blocksWinsRow.domain false) (Rows.blocksWinsSpec.post enc Try.prog Try.f4 false true false false) := by
  refine returnsInHanded_of_change (C := Try.checked) own started (by kernel_rfl) Try.func4
    (ChangeSpec.witness6 (enc := enc) (C := Try.checked) false ⟨#[], #[.bool false, .bool false], []⟩ 8 (by kernel_rfl) (by kernel_rfl) (by kernel_rfl) (by kernel_rfl)) ?_
  intro W base args ds gs before hval0 hW hcnd _
  have hval : ∀ (j : Nat) t v, Try.f4.params[j]? = some t → args[j]? = some v → Value.okWide Try.prog W .any base t v := hval0
  have hW' := hW
  obtain ⟨p, q, hA0, hV, rfl, hfz, hnd⟩ := hW
  have hA : DataW.TrodAll enc Try.prog W 0 (fun _ => true) true Try.f4.params.toList args.toList ds p := hA0
  rw [Try.params4] at hA hval
  obtain ⟨v0, vs0, d0, ds0, p0, q0, hargs, rfl, rfl, h0, r0⟩ := trodAll_cons hA
  obtain ⟨v1, vs1, d1, ds1, p1, q1, rfl, rfl, rfl, h1, r1⟩ := trodAll_cons r0
  obtain ⟨rfl, rfl, rfl⟩ := trodAll_nil r1
  obtain rfl : args = #[v0, v1] := by cases args; simp_all
  obtain ⟨rfl, rfl⟩ := trodVars_none hV
  obtain ⟨q, rfl, rfl, rfl⟩ := open_bool Try.underlying4 (hval 0 4 v0 rfl rfl) h0
  obtain ⟨o, rfl, rfl, rfl⟩ := open_bool Try.underlying4 (hval 1 4 v1 rfl rfl) h1
  clear hA0 hval0
  refine (walk q o W).mono fun e W' ⟨he, bel⟩ => ?_
  subst he
  exact ⟨_, rfl, _, _, _, [], _, [], hW', trodAll_mk1 (shut_bool Try.underlying4 _), (trodAll_cons_mk (shut_bool Try.underlying4 q) (trodAll_cons_mk (shut_bool Try.underlying4 o) trodAll_mk0)), rfl, bel.frame _, fun h => by cases h⟩
end Go.Proofs.Ytaaecgjbnickaaa.LawWins
namespace Go.Proofs.Ytaaecgjbnickaaa
/-- THE STATEMENT. -/
theorem blocksWins_proved : Rows.BlocksWinsSaid :=
  OpenClaim.holds_of_wide 4 Try.f4 rfl rfl rfl rfl rfl rfl rfl ⟨rfl, rfl, rfl, rfl, rfl⟩ rfl rfl rfl rfl rfl (by kernel_rfl) Try.func4 (by kernel_rfl)
    (of_decide_eq_true (by kernel_rfl)) (by unfold Func.isWrapper; first | (rw [if_pos (by decide +kernel)]; kernel_rfl) | (rw [if_neg (by decide +kernel)]; exact ⟨rfl, rfl⟩))
    (fun os started H enc _ => LawWins.lifted os started H enc)
end Go.Proofs.Ytaaecgjbnickaaa
