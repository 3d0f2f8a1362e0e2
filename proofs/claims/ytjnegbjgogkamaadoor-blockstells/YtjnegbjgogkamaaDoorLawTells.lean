/- BlocksTells is proved: for every number and every text the statement's function returns true, and the arguments read as they did; no condition but the table that the card ties. -/
import Derived.Test.YtjnegbjgogkamaaDoorTlB
import Derived.Test.YtjnegbjgogkamaaDoorTlD
import Derived.Test.YtjnegbjgogkamaaDoorTlE
import Derived.Test.YtjnegbjgogkamaaDoorOpA
import Derived.Deep.Light
import Derived.Test.YtjnegbjgogkamaaDoorTie
import Derived.Test.YtjnegbjgogkamaaDoorCards
import Derived.ChangeOld
import Derived.ChangeMaps5
import Derived.SevenTiedAt
import Derived.Stop.Joined
namespace Go.Proofs.YtjnegbjgogkamaaDoor.LawTells
set_option linter.unusedVariables false
open Go.RowKit Go.Proofs.YtjnegbjgogkamaaDoor Go.ChangeShapes Go.WideShapes Go.ChangeAt Go.Joins
theorem nm_one (j k : Nat) (hj : 1 ≤ j ∧ j ≤ 10) (hk : 1 ≤ k ∧ k ≤ 10) (e : nmT j = nmT k) : j = k := by
  have a : j = 1 ∨ j = 2 ∨ j = 3 ∨ j = 4 ∨ j = 5 ∨ j = 6 ∨ j = 7 ∨ j = 8 ∨ j = 9 ∨ j = 10 := by omega
  have b : k = 1 ∨ k = 2 ∨ k = 3 ∨ k = 4 ∨ k = 5 ∨ k = 6 ∨ k = 7 ∨ k = 8 ∨ k = 9 ∨ k = 10 := by omega
  have e' : (nmT j).data.toList = (nmT k).data.toList := by rw [e]
  clear e hj hk
  rcases a with rfl | rfl | rfl | rfl | rfl | rfl | rfl | rfl | rfl | rfl <;> rcases b with rfl | rfl | rfl | rfl | rfl | rfl | rfl | rfl | rfl | rfl <;> first | rfl | (exfalso; revert e'; decide)
theorem KRes_same {x : ByteArray} {e e' : Ending} (h : KRes x e) (h' : KRes x e') : e' = e := by
  rcases h with ⟨k, k1, k2, k3, rfl⟩ | ⟨k3, rfl⟩ <;> rcases h' with ⟨j, j1, j2, j3, rfl⟩ | ⟨j3, rfl⟩
  · rw [nm_one j k ⟨j1, j2⟩ ⟨k1, k2⟩ (j3.trans k3.symm)]
  · exact absurd k3 (j3 k k1 k2)
  · exact absurd j3 (k3 j j1 j2)
  · rfl
theorem KRes_form {x : ByteArray} {e : Ending} (h : KRes x e) : ∃ (k : Int) (p : Bool), e = .returned (.tuple #[.int .i64 k, .bool p]) := by
  rcases h with ⟨k, _, _, _, rfl⟩ | ⟨_, rfl⟩
  · exact ⟨_, _, rfl⟩
  · exact ⟨_, _, rfl⟩
set_option maxRecDepth 20000 in
set_option maxHeartbeats 8000000 in
theorem walk (K : Int) (x : ByteArray) (w : World) (hK : -9223372036854775808 ≤ K ∧ K < 9223372036854775808) (ht : Asc w) :
    Calls Tryd.prog 3 #[.int .i64 K, .string x] w fun e w' => e = .returned (.bool true) ∧ Below w.heap.size w w' := by
  have HT : Hid (Asc w) := ht
  clear ht
  go_enter Tryd.func3, Tryd.ntmps3
  go_wp2_with fail
  refine (KindP_of x _).mono ?_
  rintro e w1 ⟨hr, hb1⟩
  have HR : Hid (KRes x e) := hr
  obtain ⟨k, p, rfl⟩ := KRes_form hr
  have B1 : Hid (Below w.heap.size w w1) := hb1
  clear hr hb1
  go_wp2_with fail
  refine (KindR_of x _).mono ?_
  rintro e w2 ⟨hr2, hb2⟩
  obtain rfl := KRes_same HR.out hr2
  have B2 : Hid (Below w.heap.size w w2) := B1.out.trans (hb2.mono B1.out.size)
  clear hr2 hb2 HR
  cases p
  all_goals
    go_wp2_with fail
    refine (NameP_of K _).mono ?_
    rintro e w3 ⟨rfl, hb3⟩
    have B3 : Hid (Below w.heap.size w w3) := B2.out.trans (hb3.mono B2.out.size)
    clear hb3
    go_wp2_with fail
    refine (NameR_of K _).mono ?_
    rintro e w4 ⟨rfl, hb4⟩
    have B4 : Hid (Below w.heap.size w w4) := B3.out.trans (hb4.mono B3.out.size)
    clear hb4
    generalize nmT K = nmk at *
    go_wp2_with fail
    refine (SizeP_of K _).mono ?_
    rintro e w5 ⟨rfl, hb5⟩
    have B5 : Hid (Below w.heap.size w w5) := B4.out.trans (hb5.mono B4.out.size)
    clear hb5
    go_wp2_with fail
    refine (SizeR_of K _).mono ?_
    rintro e w6 ⟨rfl, hb6⟩
    have B6 : Hid (Below w.heap.size w w6) := B5.out.trans (hb6.mono B5.out.size)
    clear hb6
    generalize szT K = szk at *
    go_wp2_with fail
    by_cases hv : 1 ≤ K ∧ K ≤ 10
    · obtain ⟨n, N, C, D, Z, hT⟩ := tv_any K hv
      obtain ⟨nb, u, m, hG⟩ := bgn_any K hv
      refine (hT.vp _ (HT.out.below B6.out)).mono ?_
      rintro e w7 ⟨g7, c7, rfl, ⟨vf, h71, h72, h73⟩, hb7⟩
      have B7 : Hid (Below w.heap.size w w7) := B6.out.trans (hb7.mono B6.out.size)
      have V7 : Hid (VrAt w7 g7 n vf) := h71
      have E7 : Hid (∀ i, i < n → vf.nm i = N i ∧ vf.cl i = C i ∧ vf.kd i = D i) := h72
      have Z7 : Hid (IniT w7 n Z vf) := h73
      have HTT : Hid (Tv K n N C D Z) := hT
      have HGG : Hid (Bgn K nb u m) := hG
      clear h71 h72 h73 hb7 hT hG
      go_wp2_with fail
      refine (HTT.out.vr _).mono ?_
      rintro e w8 ⟨g8, c8, rfl, ⟨vg, h81, h82, h83⟩, hb8⟩
      have B8 : Hid (Below w.heap.size w w8) := B7.out.trans (hb8.mono B7.out.size)
      have V7' : Hid (VrAt w8 g7 n vf) := V7.out.below hb8
      have Z7' : Hid (IniT w8 n Z vf) := Z7.out.below hb8
      have V8 : Hid (VrAt w8 g8 n vg) := h81
      have E8 : Hid (∀ i, i < n → vg.nm i = N i ∧ vg.cl i = C i ∧ vg.kd i = D i) := h82
      have Z8 : Hid (IniT w8 n Z vg) := h83
      clear h81 h82 h83 hb8
      go_wp2_with fail
      refine (SameVars_of g7 g8 n c7 c8 vf vg _ HTT.out.hn V7'.out V8.out (fun i hi => ?_) (fun i hi => ?_)).mono ?_
      · rcases Z7'.out i hi with ⟨q, h1⟩ | ⟨q, b, h1, h2⟩ <;> rcases Z8.out i hi with ⟨q', h3⟩ | ⟨q', b', h3, h4⟩
        · exact ⟨_, _, _, _, h1, h3, .inl rfl⟩
        · exact absurd q q'
        · exact absurd q' q
        · exact ⟨_, _, _, _, h1, h3, .inr ⟨_, _, _, rfl, rfl, h2, h4, by decide⟩⟩
      · obtain ⟨a1, a2, a3⟩ := E7.out i hi
        obtain ⟨b1, b2, b3⟩ := E8.out i hi
        exact ⟨b1.trans a1.symm, b2.trans a2.symm, b3.trans a3.symm⟩
      rintro e w9 ⟨rfl, hb9⟩
      have B9 : Hid (Below w.heap.size w w9) := B8.out.trans (hb9.mono B8.out.size)
      clear hb9
      go_wp2_with fail
      refine (HGG.out.sp _ (HT.out.below B9.out)).mono ?_
      rintro e w10 ⟨ga, ca, rfl, _, hra, hb10⟩
      have B10 : Hid (Below w.heap.size w w10) := B9.out.trans (hb10.mono B9.out.size)
      have RA : Hid (Row3 w10 ga nb u) := hra
      clear hra hb10
      go_wp2_with fail
      refine (HGG.out.sr _).mono ?_
      rintro e w11 ⟨gb, cb, rfl, _, hrb, hb11⟩
      have B11 : Hid (Below w.heap.size w w11) := B10.out.trans (hb11.mono B10.out.size)
      have RA' : Hid (Row3 w11 ga nb u) := RA.out.below hb11
      have RB : Hid (Row3 w11 gb nb u) := hrb
      clear hrb hb11
      go_wp2_with fail
      refine (Equal_rows _ _ _ _ _ u _ RA'.out.at RB.out.at (by have := HGG.out.hn2; omega)).mono ?_
      rintro e w12 ⟨rfl, hb12⟩
      have B12 : Hid (Below w.heap.size w w12) := B11.out.trans (hb12.mono B11.out.size)
      clear hb12
      go_wp2_with fail
      refine (SizeP_of 1 _).mono ?_
      rintro e w13 ⟨rfl, hb13⟩
      have B13 : Hid (Below w.heap.size w w13) := B12.out.trans (hb13.mono B12.out.size)
      clear hb13
      rw [show szT 1 = 3 from rfl]
      go_wp2
      go_ret
      exact ⟨rfl, B13.out⟩
    · have hbad : K ≤ 0 ∨ 11 ≤ K := by omega
      have HK : Hid (K ≤ 0 ∨ 11 ≤ K) := hbad
      clear hbad hv
      refine (Vars_bad K _ HK.out (HT.out.below B6.out)).mono ?_
      rintro e w7 ⟨rfl, hb7⟩
      have B7 : Hid (Below w.heap.size w w7) := B6.out.trans (hb7.mono B6.out.size)
      clear hb7
      go_wp2_with fail
      refine (VarsR_bad K _ HK.out).mono ?_
      rintro e w8 ⟨rfl, rfl⟩
      go_wp2_with fail
      refine (SameVars_nil _).mono ?_
      rintro e w9 ⟨rfl, hb9⟩
      have B9 : Hid (Below w.heap.size w w9) := B7.out.trans (hb9.mono B7.out.size)
      clear hb9
      go_wp2_with fail
      refine (Start_bad K _ HK.out (HT.out.below B9.out)).mono ?_
      rintro e w10 ⟨rfl, hb10⟩
      have B10 : Hid (Below w.heap.size w w10) := B9.out.trans (hb10.mono B9.out.size)
      clear hb10
      go_wp2_with fail
      refine (StartR_bad K _ HK.out).mono ?_
      rintro e w11 ⟨rfl, hb11⟩
      have B11 : Hid (Below w.heap.size w w11) := B10.out.trans (hb11.mono B10.out.size)
      clear hb11
      go_wp2_with fail
      refine (Equal_none _ _ _ _ _).mono ?_
      rintro e w12 ⟨rfl, hb12⟩
      have B12 : Hid (Below w.heap.size w w12) := B11.out.trans (hb12.mono B11.out.size)
      clear hb12
      go_wp2_with fail
      refine (SizeP_of 1 _).mono ?_
      rintro e w13 ⟨rfl, hb13⟩
      have B13 : Hid (Below w.heap.size w w13) := B12.out.trans (hb13.mono B12.out.size)
      clear hb13
      rw [show szT 1 = 3 from rfl]
      go_wp2
      go_ret
      exact ⟨rfl, B13.out⟩


theorem own : ownKnob Tryd.prog.godebug = none := by kernel_rfl
theorem laidOut : laidOutB Tryd.prog = true := by kernel_rfl
set_option maxRecDepth 100000 in
theorem lifted (os : Os) (started : os.Started) (H : Type) (enc : TypeId × Value → H) :
    ReturnsInHanded {} Tryd.checked os 3 .any (fun w args => (Rows.blocksTellsSpec.pre enc Tryd.prog Tryd.f3 [] false w args ∧ laidMetH Tryd.prog Rows.blocksTellsRow.laid w) ∧ sizedMet enc Tryd.prog Tryd.f3 (OpenSpec.ofChange Rows.blocksTellsSpec) false w args)
      (Rows.blocksTellsSpec.post enc Tryd.prog Tryd.f3 false true false false) := by
  refine returnsInHanded_of_change_and (C := Tryd.checked) (X := fun w _ => laidMetH Tryd.prog Rows.blocksTellsRow.laid w) (fun _ _ _ hh h => h.of_heap hh) own started (by kernel_rfl) Tryd.func3
    (ChangeSpec.witness_shaped (enc := enc) (C := Tryd.checked) (os := os) (X := fun w _ => laidMetH Tryd.prog Rows.blocksTellsRow.laid w) false (World.laidAll Tryd.prog os Rows.blocksTellsRow.laid) #[.int .i64 0, .string ⟨#[]⟩] 8 (World.laidAll_os _ _ _)
      (World.shaped_of_ZipB (by kernel_rfl) (by kernel_rfl)) (by kernel_rfl) (by kernel_rfl) (by kernel_rfl)
      (by rw [MakeChecks.laidMetH_plain _ _ _ (by kernel_rfl)]; exact laidMet_laidAll _ (by kernel_rfl) (by kernel_rfl))) ?_
  intro W base args ds gs before hval0 hW _ hsz0 hL _
  have hval : ∀ (j : Nat) t v, Tryd.f3.params[j]? = some t → args[j]? = some v → Value.okWide Tryd.prog W .any base t v := hval0
  have hW' := hW
  obtain ⟨p, q, hA0, hV, rfl, hfz, hnd⟩ := hW
  have hA : DataW.TrodAll enc Tryd.prog W 0 (fun _ => true) true Tryd.f3.params.toList args.toList ds p := hA0
  have hsz : (DataW.weightsEach Tryd.prog (Tryd.f3.params.toList ++ Rows.blocksTellsSpec.plain.varTypes Tryd.prog) (ds ++ gs)).all (· ≤ reachBytes) = true := hsz0
  rw [Tryd.params3] at hA hval hsz
  obtain ⟨v0, vs0, d0, ds0, p0, q0, hargs, rfl, rfl, h0, r0⟩ := trodAll_cons hA
  obtain ⟨v1, vs1, d1, ds1, p1, q1, rfl, rfl, rfl, h1, r1⟩ := trodAll_cons r0
  obtain ⟨rfl, rfl, rfl⟩ := trodAll_nil r1
  obtain rfl : args = #[v0, v1] := by cases args; simp_all
  obtain ⟨rfl, rfl⟩ := trodVars_none hV
  obtain ⟨K, rfl, rfl, rfl, wK⟩ := open_int Tryd.underlying3 (hval 0 3 v0 rfl rfl) h0
  have bK := bounds_i64 wK
  obtain ⟨x, rfl, rfl, rfl, hx⟩ := Go.ChangeMaps.open_string Tryd.underlying9 (hval 1 9 v1 rfl rfl) h1
  have hT := asc_of hL
  clear hA0 hval0 hL
  refine (walk K x W (by omega) hT).mono fun e W' ⟨he, bel⟩ => ?_
  subst he
  exact ⟨_, rfl, _, _, _, [], _, [], hW', trodAll_mk1 (shut_bool Tryd.underlying4 _), (trodAll_cons_mk (shut_int Tryd.underlying3 wK) (trodAll_cons_mk (Go.ChangeMaps.shut_string Tryd.underlying9 hx) trodAll_mk0)), rfl, bel.frame _, fun h => by cases h⟩
theorem row_holds : Rows.BlocksTellsSaid :=
  OpenClaim.holds_of_wide 3 Tryd.f3 rfl rfl rfl rfl rfl rfl rfl ⟨rfl, rfl, rfl, rfl, rfl⟩ rfl rfl rfl rfl rfl (by kernel_rfl) Tryd.func3 (by kernel_rfl)
    (of_decide_eq_true (by kernel_rfl)) (by unfold Func.isWrapper; first | (rw [if_pos (by decide +kernel)]; kernel_rfl) | (rw [if_neg (by decide +kernel)]; exact ⟨rfl, rfl⟩))
    (fun os started H enc _ => lifted os started H enc)
end Go.Proofs.YtjnegbjgogkamaaDoor.LawTells
namespace Go.Proofs.YtjnegbjgogkamaaDoor
/-- THE STATEMENT, ITS TABLES TIED TO THE TEXTS. -/
theorem blocksTells_proved : Rows.BlocksTellsCardSaid :=
  Claim7.holds_tied_plain_at .later [] [.listed, .data] true (true, "25e70c5a78ee0586a3f76f535056dbfc73b1d5f8467cc660001d44cea8c18377") false
    LawTells.row_holds (fun _ h => by cases h) (by kernel_rfl) (fun _ h => by cases h) blocksTells_row_tie rfl ⟨rfl, rfl⟩ (by kernel_rfl) rfl
    (fun f fn hf hfn => by
      obtain rfl : f = 3 := Option.some.inj ((show Tryd.prog.funcNamed "relay/relaylaw10.BlocksTells" = some 3 by kernel_rfl).symm.trans hf) |>.symm
      obtain rfl : fn = Tryd.f3 := (Option.some.inj (Tryd.func3.symm.trans hfn)).symm
      exact ⟨by kernel_rfl, fun j t ht => by
        rw [Tryd.params3] at ht
        have hm : t ∈ [3, 9] := by simpa using Array.mem_of_getElem? ht
        have hall : ([3, 9].all fun u => !Tryd.prog.wantsStandIn u) = true := by kernel_rfl
        exact (show Tryd.prog.wantsStandIn t = false by simpa using List.all_eq_true.1 hall t hm)⟩)
    (by kernel_rfl)
end Go.Proofs.YtjnegbjgogkamaaDoor
