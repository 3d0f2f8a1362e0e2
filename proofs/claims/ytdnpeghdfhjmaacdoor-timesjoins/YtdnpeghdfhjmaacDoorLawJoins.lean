/- TimesJoins is proved: for every two values and every kind the statement's function returns true, and its arguments read as they did; the listed tables hold what the programs' texts lay in them (tied); no call on the road reads one. -/
import Derived.Test.YtdnpeghdfhjmaacDoorParts
import Derived.Test.YtdnpeghdfhjmaacDoorOpenJ
import Derived.Test.YtdnpeghdfhjmaacDoorTie
import Derived.Test.YtdnpeghdfhjmaacDoorCards
import Derived.ShutString
import Derived.ChangeOld
import Derived.Below
import Derived.LaidMore
import Derived.Lay
import Derived.SevenTiedAt
import Derived.Stop.Joined
namespace Go.Proofs.YtdnpeghdfhjmaacDoor.LawTimesJoins
set_option linter.unusedVariables false
open Go.ChangeShapes Go.WideShapes Go.ChangeAt Go.RowKit
theorem own : ownKnob Tryd.prog.godebug = none := by kernel_rfl
theorem laidOut : laidOutB Tryd.prog = true := by kernel_rfl
theorem join_form (k b k' c : Int) (s t : ByteArray) : ∃ k1 b1 s1 p, JV k b k' c s t = .tuple #[V k1 b1 s1, .bool p] := by
  unfold JV
  split
  all_goals exact ⟨_, _, _, _, rfl⟩
theorem part_form (k kv b : Int) (s : ByteArray) : ∃ k1 b1 s1 p, PV k kv b s = .tuple #[V k1 b1 s1, .bool p] := by
  unfold PV
  split
  all_goals exact ⟨_, _, _, _, rfl⟩
/-- A value lies in a box. -/
structure Lies (W : World) (p : Nat) (k b : Int) (s : ByteArray) : Prop where
  lt : p < W.heap.size
  c0 : W.cell? ⟨p, 0, none⟩ = some (.int .u8 k)
  c1 : W.cell? ⟨p, 1, none⟩ = some (.int .u64 b)
  c2 : W.cell? ⟨p, 2, none⟩ = some (.string s)
theorem Lies.next {W w' : World} {p : Nat} {k b : Int} {s : ByteArray} (h : Lies W p k b s) (hb : Below W.heap.size W w') : Lies w' p k b s :=
  ⟨Nat.lt_of_lt_of_le h.lt hb.size, by rw [hb.cell (p := ⟨p, 0, none⟩) h.lt]; exact h.c0, by rw [hb.cell (p := ⟨p, 1, none⟩) h.lt]; exact h.c1, by rw [hb.cell (p := ⟨p, 2, none⟩) h.lt]; exact h.c2⟩
theorem Lies.alloc {W : World} {p : Nat} {k b : Int} {s : ByteArray} (h : Lies W p k b s) (o : Obj) : Lies (W.alloc o) p k b s := h.next ((Below.refl _ _).alloc (Nat.le_refl _) _)
theorem Lies.new (W : World) (k b : Int) (s : ByteArray) (t : TypeId) : Lies (W.alloc (.cells #[.int .u8 k, .int .u64 b, .string s] t)) W.heap.size k b s :=
  ⟨by simp, by simp, by simp, by simp⟩
set_option maxHeartbeats 4000000 in
theorem walk (kd bd : Int) (sd : ByteArray) (kt bt : Int) (st : ByteArray) (k : Int) (w : World) (h0 : 0 ≤ bd) (h1 : bd < 18446744073709551616) (hs : sd.size ≤ maxLen) (g0 : 0 ≤ bt) (g1 : bt < 18446744073709551616) (gs : st.size ≤ maxLen) :
    Calls Tryd.prog 5 #[V kd bd sd, V kt bt st, .int .u8 k] w fun e w' => e = .returned (.bool true) ∧ Below w.heap.size w w' := by
  have j1 := Join_of kd bd kt bt sd st
  have j2 := JoinR_of kd bd kt bt sd st
  obtain ⟨k1, b1, s1, p1, e1⟩ := join_form kd bd kt bt sd st
  rw [e1] at j1 j2
  have J1 : Hid _ := j1
  have J2 : Hid _ := j2
  have q1 := Part_of k kd bd sd
  have q2 := PartR_of k kd bd sd
  obtain ⟨k2, b2, s2, p2, e2⟩ := part_form k kd bd sd
  rw [e2] at q1 q2
  have Q1 : Hid _ := q1
  have Q2 : Hid _ := q2
  clear j1 j2 q1 q2 e1 e2
  go_enter Tryd.func5, Tryd.ntmps5
  go_wp2_with fail
  refine (J1.out _ h0 h1 hs g0 g1 gs).mono ?_
  rintro e w1 ⟨rfl, hb⟩
  have B : Hid (Below w.heap.size w w1) := (((Below.refl _ _).alloc (Nat.le_refl _) _).alloc (by simp) _).trans (hb.mono (by simp; omega))
  have A0 : Hid (Lies w1 w.heap.size kd bd sd) := ((Lies.new w kd bd sd _).alloc _).next hb
  have A1 : Hid (Lies w1 (w.heap.size + 1) kt bt st) := by
    have h := (Lies.new (w.alloc (.cells #[.int .u8 kd, .int .u64 bd, .string sd] 32)) kt bt st 32).next hb
    show Lies _ _ _ _ _
    simpa using h
  clear hb
  obtain ⟨l0, c00, c01, c02⟩ := A0.out
  obtain ⟨l1, c10, c11, c12⟩ := A1.out
  go_wp2_with fail
  refine (J2.out _ h0 h1 hs g0 g1 gs).mono ?_
  rintro e w2 ⟨rfl, hb⟩
  have B2 : Hid (Below w.heap.size w w2) := (B.out.alloc (by omega) _).trans (hb.mono (by simp; omega))
  have A0' : Hid (Lies w2 w.heap.size kd bd sd) := (A0.out.alloc _).next hb
  have A2 : Hid (Lies w2 w1.heap.size k1 b1 s1) := (Lies.new w1 k1 b1 s1 _).next hb
  clear hb B A0 A1 l0 c00 c01 c02 l1 c10 c11 c12
  obtain ⟨l0, c00, c01, c02⟩ := A0'.out
  go_wp2_with fail
  refine (Q1.out _ h0 h1 hs).mono ?_
  rintro e w3 ⟨rfl, hb⟩
  have B : Hid (Below w.heap.size w w3) := (B2.out.alloc (by omega) _).trans (hb.mono (by simp; omega))
  have A0 : Hid (Lies w3 w.heap.size kd bd sd) := (A0'.out.alloc _).next hb
  have A2' : Hid (Lies w3 w1.heap.size k1 b1 s1) := (A2.out.alloc _).next hb
  have A3 : Hid (Lies w3 w2.heap.size k1 b1 s1) := (Lies.new w2 k1 b1 s1 _).next hb
  clear hb B2 A0' A2 l0 c00 c01 c02
  obtain ⟨l0, c00, c01, c02⟩ := A0.out
  go_wp2_with fail
  refine (Q2.out _ h0 h1 hs).mono ?_
  rintro e w4 ⟨rfl, hb⟩
  have B2 : Hid (Below w.heap.size w w4) := (B.out.alloc (by omega) _).trans (hb.mono (by simp; omega))
  have zz : w.heap.size < w4.heap.size := ((A0.out.alloc _).next hb).lt
  obtain ⟨l2, c20, c21, c22⟩ := (A2'.out.alloc _).next hb
  obtain ⟨l3, c30, c31, c32⟩ := (A3.out.alloc _).next hb
  obtain ⟨l4, c40, c41, c42⟩ := (Lies.new w3 k2 b2 s2 _).next hb
  clear hb B A0 A2' A3 l0 c00 c01 c02
  go_wp2
  go_ret
  exact ⟨by simp, B2.out.alloc (by omega) _⟩
set_option maxRecDepth 100000 in
theorem lifted (os : Os) (started : os.Started) (H : Type) (enc : TypeId × Value → H) :
    ReturnsInHanded {} Tryd.checked os 5 .any (fun w args => (Rows.timesJoinsSpec.pre enc Tryd.prog Tryd.f5 [] false w args ∧ laidMetH Tryd.prog Rows.timesJoinsRow.laid w) ∧ sizedMet enc Tryd.prog Tryd.f5 (OpenSpec.ofChange Rows.timesJoinsSpec) false w args)
      (Rows.timesJoinsSpec.post enc Tryd.prog Tryd.f5 false true false false) := by
  refine returnsInHanded_of_change_and (C := Tryd.checked) (X := fun w _ => laidMetH Tryd.prog Rows.timesJoinsRow.laid w) (fun _ _ _ hh h => h.of_heap hh) own started (by kernel_rfl) Tryd.func5
    (ChangeSpec.witness_shaped (enc := enc) (C := Tryd.checked) (os := os) (X := fun w _ => laidMetH Tryd.prog Rows.timesJoinsRow.laid w) false (World.laidAll Tryd.prog os Rows.timesJoinsRow.laid) #[V 0 0 ⟨#[]⟩, V 0 0 ⟨#[]⟩, .int .u8 0] 8 (World.laidAll_os _ _ _)
      (World.shaped_of_ZipB (by kernel_rfl) (by kernel_rfl)) (by kernel_rfl) (by kernel_rfl) (by kernel_rfl)
      (by rw [MakeChecks.laidMetH_plain _ _ _ (by kernel_rfl)]; exact laidMet_laidAll _ (by kernel_rfl) (by kernel_rfl))) ?_
  intro W base args ds gs before hval0 hW _ _ hL _
  have hval : ∀ (j : Nat) t v, Tryd.f5.params[j]? = some t → args[j]? = some v → Value.okWide Tryd.prog W .any base t v := hval0
  have hW' := hW
  obtain ⟨p, q, hA0, hV, rfl, hfz, hnd⟩ := hW
  have hA : DataW.TrodAll enc Tryd.prog W 0 (fun _ => true) true Tryd.f5.params.toList args.toList ds p := hA0
  rw [Tryd.params5] at hA hval
  obtain ⟨v0, vs0, d0, ds0, p0, q0, hargs, rfl, rfl, h0, r0⟩ := trodAll_cons hA
  obtain ⟨v1, vs1, d1, ds1, p1, q1, rfl, rfl, rfl, h1, r1⟩ := trodAll_cons r0
  obtain ⟨v2, vs2, d2, ds2, p2, q2, rfl, rfl, rfl, h2, r2⟩ := trodAll_cons r1
  obtain ⟨rfl, rfl, rfl⟩ := trodAll_nil r2
  obtain rfl : args = #[v0, v1, v2] := by cases args; simp_all
  obtain ⟨rfl, rfl⟩ := trodVars_none hV
  have k0 := h0
  have lt0 : ∀ x ∈ p0, x.block < W.heap.size := by obtain ⟨m, hm⟩ := k0; exact DataW.trod_lt m _ _ _ hm
  obtain ⟨kd, bd, sd, rfl, hkd, bd0, bd1, hsd⟩ := open_V (hval 0 32 v0 rfl rfl) h0
  have k1 := h1
  have lt1 : ∀ x ∈ p1, x.block < W.heap.size := by obtain ⟨m, hm⟩ := k1; exact DataW.trod_lt m _ _ _ hm
  obtain ⟨kt, bt, st, rfl, hkt, bt0, bt1, hst⟩ := open_V (hval 1 32 v1 rfl rfl) h1
  obtain ⟨k, rfl, rfl, rfl, wk⟩ := open_int Tryd.underlying29 (hval 2 29 v2 rfl rfl) h2
  clear hA0 hval0 hL
  refine (walk kd bd sd kt bt st k W bd0 bd1 hsd bt0 bt1 hst).mono fun e W' ⟨he, bel⟩ => ?_
  subst he
  exact ⟨_, rfl, _, _, _, [], _, [], hW', trodAll_mk1 (shut_bool Tryd.underlying4 _), (trodAll_cons_mk (Below.trod laidOut (by kernel_rfl) (of_decide_eq_true (by kernel_rfl)) k0 bel lt0) (trodAll_cons_mk (Below.trod laidOut (by kernel_rfl) (of_decide_eq_true (by kernel_rfl)) k1 bel lt1) (trodAll_cons_mk (shut_int Tryd.underlying29 wk) trodAll_mk0))), rfl, bel.frame _, fun h => by cases h⟩
theorem row_holds : Rows.TimesJoinsSaid :=
  OpenClaim.holds_of_wide 5 Tryd.f5 rfl rfl rfl rfl rfl rfl rfl ⟨rfl, rfl, rfl, rfl, rfl⟩ rfl rfl rfl rfl rfl (by kernel_rfl) Tryd.func5 (by kernel_rfl)
    (of_decide_eq_true (by kernel_rfl)) (by unfold Func.isWrapper; first | (rw [if_pos (by decide +kernel)]; kernel_rfl) | (rw [if_neg (by decide +kernel)]; exact ⟨rfl, rfl⟩))
    (fun os started H enc _ => lifted os started H enc)
end Go.Proofs.YtdnpeghdfhjmaacDoor.LawTimesJoins
namespace Go.Proofs.YtdnpeghdfhjmaacDoor
/-- THE STATEMENT, ITS TABLES TIED TO THE TEXTS. -/
theorem timesJoins_proved : Rows.TimesJoinsCardSaid :=
  Claim7.holds_tied_plain_at .later [] [.data, .data, .data, .data, .pinned, .pinned] true (true, "370948a16c879585a2c550045f9e93ceebaa3a7eb8a31de4cade415f8fc37a3b") false
    LawTimesJoins.row_holds (fun _ h => by cases h) (by kernel_rfl) (fun _ h => by cases h) timesJoins_row_tie rfl ⟨rfl, rfl⟩ (by kernel_rfl) rfl
    (fun f fn hf hfn => by
      obtain rfl : f = 5 := Option.some.inj ((show Tryd.prog.funcNamed "relay/relaylaw02.TimesJoins" = some 5 by kernel_rfl).symm.trans hf) |>.symm
      obtain rfl : fn = Tryd.f5 := (Option.some.inj (Tryd.func5.symm.trans hfn)).symm
      exact ⟨by kernel_rfl, fun j t ht => by
        rw [Tryd.params5] at ht
        have hm : t ∈ [32, 32, 29] := by simpa using Array.mem_of_getElem? ht
        have hall : ([32, 32, 29].all fun u => !Tryd.prog.wantsStandIn u) = true := by kernel_rfl
        exact (show Tryd.prog.wantsStandIn t = false by simpa using List.all_eq_true.1 hall t hm)⟩)
    (by kernel_rfl)
end Go.Proofs.YtdnpeghdfhjmaacDoor
