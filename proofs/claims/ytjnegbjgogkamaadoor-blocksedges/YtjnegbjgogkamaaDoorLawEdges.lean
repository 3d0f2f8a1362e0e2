/- BlocksEdges is proved: for every list of truth values the statement's function returns true, and the argument reads as it did; no condition but the table that the card ties. -/
import Derived.Test.YtjnegbjgogkamaaDoorBlkP
import Derived.Deep.DeepCutAuto
import Derived.Deep.Light
import Derived.Test.YtjnegbjgogkamaaDoorOpenB
import Derived.Test.YtjnegbjgogkamaaDoorTie
import Derived.Test.YtjnegbjgogkamaaDoorCards
import Derived.ChangeOld
import Derived.ChangeMaps5
import Derived.SevenTiedAt
import Derived.Stop.Joined
namespace Go.Proofs.YtjnegbjgogkamaaDoor.LawEdges
set_option linter.unusedVariables false
open Go.RowKit Go.Proofs.YtjnegbjgogkamaaDoor Go.ChangeShapes Go.WideShapes Go.ChangeAt Go.Joins
set_option maxRecDepth 20000 in
set_option maxHeartbeats 8000000 in
theorem walk (ad : Option Addr) (n cap : Nat) (f : Nat → Bool) (w : World) (h0 : ad = none → n = 0 ∧ cap = 0) (hk : BoAt w ad n f) (hn : n * 1 ≤ 140737488351232) (ht : Asc w) :
    Calls Tryd.prog 5 #[.slice ad n cap] w fun e w' => e = .returned (.bool true) ∧ Below w.heap.size w w' := by
  have HK : Hid (BoAt w ad n f) := hk
  have HT : Hid (Asc w) := ht
  have H0 : Hid (ad = none → n = 0 ∧ cap = 0) := h0
  clear hk ht h0
  have I : Hid (∃ i, Tryd.prog.info? 4 = some i ∧ i.zero = some (.bool false) ∧ i.size = 1 ∧ i.bytes = 1) := by
    obtain ⟨i, hi, hz⟩ := Option.map_eq_some_iff.1 (show (Tryd.prog.info? 4).map (fun i => (i.zero, i.size, i.bytes)) = some (some (.bool false), 1, 1) by kernel_rfl)
    simp only [Prod.mk.injEq] at hz
    exact ⟨i, hi, hz.1, hz.2.1, hz.2.2⟩
  go_enter Tryd.func5, Tryd.ntmps5
  go_wp2_with fail
  refine (Start_3 _ HT.out).mono ?_
  rintro e w0 ⟨g0, c0, rfl, hg0, hr0, hb0⟩
  have HB0 : Hid (Below w.heap.size w w0) := hb0
  have HR0 : Hid (Row3 w0 g0 3 (vlL ks3 [0, 0, 0])) := str_vl hr0
  clear hr0 hb0
  go_wp2_with fail
  refine (Start_4 _ (HT.out.below HB0.out)).mono ?_
  rintro e w1 ⟨g1, c1, rfl, hg1, hr1, hb1⟩
  have HB1 : Hid (Below w.heap.size w w1) := HB0.out.trans (hb1.mono HB0.out.size)
  have HR0' : Hid (Row3 w1 g0 3 (vlL ks3 [0, 0, 0])) := HR0.out.below hb1
  have HR1 : Hid (Row3 w1 g1 3 (vlL ks3 [0, 0, 1])) := hr1
  have HK1 : Hid (BoAt w1 ad n f) := HK.out.below HB1.out
  clear hr1 hb1 HR0
  go_wp2_with (at_builtin; obtain ⟨i, hi, hz, hs, hy⟩ := I.out; refine wpList_app _ rfl _ _ 45 rfl w1.heap.size 4 i _ 1 1 Tryd.underlying45 hi hz hs hy rfl (by decide) _ 2 [.bool true, .bool false] rfl (own_bool2 w1 _) ad n cap (boL n f) rfl H0.out (by rw [boL_len]; omega) ((HK1.out.below ((Below.refl _ _).alloc (Nat.le_refl _) _)).src) (boL_one n f) (by simp [maxLen]; omega) (by omega) (by simp) ?_; intro v' w2 k1 k2; rw [boL_two, Nat.add_comm] at k1; have H1 : Hid (w2.ownsRow w1.heap.size 4 1 v' (n + 2) (boL (n + 2) (boD f))) := k1; have H2 : Hid _ := k2; clear k1 k2 hi hz hs hy; obtain ⟨gt, ct, rfl, hgt, htr⟩ := own_bools H1.out (Nat.succ_pos (n + 1)); have HTR : Hid (BRow w2 gt (n + 2) (boD f)) := htr; clear htr)
  have B2 : Hid (Below w1.heap.size w1 w2) := ((Below.refl _ _).alloc (Nat.le_refl _) _).grown H2.out (by simp) (fun k e => by cases e; exact Nat.le_refl _)
  have R2 : Hid (Row3 w2 g1 3 (vlL ks3 [0, 0, 1])) := HR1.out.below B2.out
  have R0 : Hid (Row3 w2 g0 3 (vlL ks3 [0, 0, 0])) := HR0'.out.below B2.out
  clear H1 H2 HR1 HK1 HR0'
  have zt : gt < w2.heap.size := block_lt_of_cell (a := ⟨gt, 0, none⟩) (HTR.out 0 (Nat.succ_pos (n + 1)))
  go_loopw [3, 4, 5, 6, 15] (fun ri fa wa ha i wr => ∃ (k : Nat) (was had : Bool) (g cc gh ch : Nat) (a0 q0 a1 q1 : Int), k ≤ n + 2 ∧ i = .int .i64 k ∧ wa = .bool was ∧ ha = .bool had ∧ ri = .slice (some ⟨g, 0, none⟩) 3 cc ∧ fa = .slice (some ⟨gh, 0, none⟩) 3 ch ∧ Row3 wr g 3 (vlL ks3 [a0, q0, tN was]) ∧ okL ks3 [a0, q0, tN was] ∧ Row3 wr gh 3 (vlL ks3 [a1, q1, tN had]) ∧ okL ks3 [a1, q1, tN had] ∧ Below w2.heap.size w2 wr) (fun _ _ _ _ i _ => n + 2 - (intOf i).toNat)
  case atStart => exact ⟨0, false, true, g0, c0, g1, c1, 0, 0, 0, 0, Nat.zero_le _, rfl, rfl, rfl, rfl, rfl, R0.out, ok3 (.inl rfl) (.inl rfl) (.inl rfl), R2.out, ok3 (.inl rfl) (.inl rfl) (.inr rfl), Below.refl _ _⟩
  case round =>
    obtain ⟨k, was, had, g, cc, gh, ch, a0, q0, a1, q1, hk, rfl, rfl, rfl, rfl, rfl, hr, ho, hr2, ho2, hb⟩ := hrel
    have HB : Hid (Below w2.heap.size w2 wr) := hb
    have HR : Hid (Row3 wr g 3 (vlL ks3 [a0, q0, tN was])) := hr
    have HO : Hid (okL ks3 [a0, q0, tN was]) := ho
    have HRh : Hid (Row3 wr gh 3 (vlL ks3 [a1, q1, tN had])) := hr2
    have HOh : Hid (okL ks3 [a1, q1, tN had]) := ho2
    have BW : Hid (Below w.heap.size w wr) := HB1.out.trans ((B2.out.trans (hb.mono B2.out.size)).mono HB1.out.size)
    by_cases hlt : k < n + 2
    · have d0 := HTR.out.below hb k hlt
      have zr := hb.size
      clear hr ho hr2 ho2 hb
      generalize htk : boD f k = p at *
      have hlt' : (k : Int) < n + 2 := by omega
      go_wp2_with fail
      refine (bit_of _ _).mono ?_
      rintro e w3 ⟨rfl, hb3⟩
      have B3 : Hid (Below wr.heap.size wr w3) := hb3
      clear hb3
      have UU := inp1 w3 ks3 (tN p) 1 (tN p) rfl (tN_mod p)
      go_wp2_with fail
      refine (stepE 3 _ ⟨g, 0, none⟩ _ _ _ (tN p) a0 q0 (tN was) _ (stok3 3 (.inl rfl) _) ((HR.out.below B3.out).at.below (below_alloc' _ _)) UU HO.out (tN_01 p)).mono ?_
      rintro e w4 ⟨g4, rfl, hg4, hr4, hb4⟩
      have B4 : Hid (Below wr.heap.size wr w4) := below_step (B3.out.alloc B3.out.size _) hb4
      rw [rise_next] at hr4
      have R4 : Hid (Row3 w4 g4 3 (vlL ks3 [tN p, tN (p && !was), tN p])) := hr4
      clear hr4 hb4 UU
      go_wp2_with fail
      refine (bit_of _ _).mono ?_
      rintro e w5 ⟨rfl, hb5⟩
      have B5 : Hid (Below wr.heap.size wr w5) := below_step B4.out hb5
      have R5 : Hid (Row3 w5 g4 3 (vlL ks3 [tN p, tN (p && !was), tN p])) := R4.out.below hb5
      clear hb5 R4
      have UU := inp1 w5 ks3 (tN p) 1 (tN p) rfl (tN_mod p)
      go_wp2_with fail
      refine (stepE 4 _ ⟨gh, 0, none⟩ _ _ _ (tN p) a1 q1 (tN had) _ (stok3 4 (.inr rfl) _) ((HRh.out.below B5.out).at.below (below_alloc' _ _)) UU HOh.out (tN_01 p)).mono ?_
      rintro e w6 ⟨g6, rfl, hg6, hr6, hb6⟩
      have B6 : Hid (Below wr.heap.size wr w6) := below_step (B5.out.alloc B5.out.size _) hb6
      rw [fall_next] at hr6
      have r5 : Row3 w6 g4 3 (vlL ks3 [tN p, tN (p && !was), tN p]) := (R5.out.below (below_alloc' _ _)).below hb6
      have HR6 : Hid (Row3 w6 g6 3 (vlL ks3 [tN p, tN (!p && had), tN p])) := hr6
      have HR5 : Hid (Row3 w6 g4 3 (vlL ks3 [tN p, tN (p && !was), tN p])) := r5
      obtain ⟨v3, o4, v5⟩ := r5.val 1 3 (by decide) rfl
      obtain ⟨u3, x4, u5⟩ := hr6.val 1 3 (by decide) rfl
      have v3' : w6.cell? ⟨g4, 3, none⟩ = some (.int .u8 1) := v3
      have v4 : w6.cell? ⟨g4, 4, none⟩ = some (.int .u64 (tN (p && !was))) := by rw [o4]; show some (Value.int _ (tN _ % _)) = _; rw [tN_mod]
      have v5' : w6.cell? ⟨g4, 5, none⟩ = some (.string ⟨#[]⟩) := v5
      have u3' : w6.cell? ⟨g6, 3, none⟩ = some (.int .u8 1) := u3
      have u4 : w6.cell? ⟨g6, 4, none⟩ = some (.int .u64 (tN (!p && had))) := by rw [x4]; show some (Value.int _ (tN _ % _)) = _; rw [tN_mod]
      have u5' : w6.cell? ⟨g6, 5, none⟩ = some (.string ⟨#[]⟩) := u5
      have z4 : g4 < w6.heap.size := block_lt_of_cell v3
      have z6 : g6 < w6.heap.size := block_lt_of_cell u3
      clear hr6 hb6 UU R5 r5 v3 o4 v5 u3 x4 u5 d0 HR HRh HO HOh htk
      have sn := sl_nil ⟨g4, 0, none⟩ 3 3
      have sn2 := sl_nil ⟨g6, 0, none⟩ 3 3
      have nv := neqI
      cases p <;> cases was <;> cases had
      all_goals
        go_wp2_with fail
        refine wp_region_sub2 (by kernel_rfl) (by kernel_rfl) ?_
        intro cx
        repeat (first | go_big_quiet_skip | (go_big_quiet_want; go_big_quiet_op; first | go_big_quiet_on | (refine ⟨_, fun _ => rfl, ?_⟩; go_big_quiet_on) | go_big_quiet_call (first | (go_at_call 23; exact calls_sub (bit_of _ _)))))
        refine wpQuiet_nil ?_
        rintro _ ⟨y, rfl⟩
        clear cx
        have BY : Hid (Below w6.heap.size w6 y.w) := y.h
        go_wp2
        exact ⟨⟨k + 1, _, _, g4, 3, g6, 3, tN _, tN _, tN _, tN _, by omega, by go_num, rfl, rfl, rfl, rfl, HR5.out.below BY.out, ok3 (tN_01 _) (tN_01 _) (tN_01 _), HR6.out.below BY.out, ok3 (tN_01 _) (tN_01 _) (tN_01 _), (HB.out.trans (B6.out.mono HB.out.size)).trans (BY.out.mono (Nat.le_trans HB.out.size B6.out.size))⟩, by simp [intOf]; omega⟩
    · have ek : k = n + 2 := by omega
      clear hr ho hr2 ho2 hb
      go_wp2
      go_ret
      exact ⟨rfl, BW.out⟩


theorem own : ownKnob Tryd.prog.godebug = none := by kernel_rfl
theorem laidOut : laidOutB Tryd.prog = true := by kernel_rfl
set_option maxRecDepth 100000 in
theorem lifted (os : Os) (started : os.Started) (H : Type) (enc : TypeId × Value → H) :
    ReturnsInHanded {} Tryd.checked os 5 .any (fun w args => (Rows.blocksEdgesSpec.pre enc Tryd.prog Tryd.f5 [] false w args ∧ laidMetH Tryd.prog Rows.blocksEdgesRow.laid w) ∧ sizedMet enc Tryd.prog Tryd.f5 (OpenSpec.ofChange Rows.blocksEdgesSpec) false w args)
      (Rows.blocksEdgesSpec.post enc Tryd.prog Tryd.f5 false true false false) := by
  refine returnsInHanded_of_change_and (C := Tryd.checked) (X := fun w _ => laidMetH Tryd.prog Rows.blocksEdgesRow.laid w) (fun _ _ _ hh h => h.of_heap hh) own started (by kernel_rfl) Tryd.func5
    (ChangeSpec.witness_shaped (enc := enc) (C := Tryd.checked) (os := os) (X := fun w _ => laidMetH Tryd.prog Rows.blocksEdgesRow.laid w) false (World.laidAll Tryd.prog os Rows.blocksEdgesRow.laid) #[.slice none 0 0] 8 (World.laidAll_os _ _ _)
      (World.shaped_of_ZipB (by kernel_rfl) (by kernel_rfl)) (by kernel_rfl) (by kernel_rfl) (by kernel_rfl)
      (by rw [MakeChecks.laidMetH_plain _ _ _ (by kernel_rfl)]; exact laidMet_laidAll _ (by kernel_rfl) (by kernel_rfl))) ?_
  intro W base args ds gs before hval0 hW _ hsz0 hL _
  have hval : ∀ (j : Nat) t v, Tryd.f5.params[j]? = some t → args[j]? = some v → Value.okWide Tryd.prog W .any base t v := hval0
  have hW' := hW
  obtain ⟨p, q, hA0, hV, rfl, hfz, hnd⟩ := hW
  have hA : DataW.TrodAll enc Tryd.prog W 0 (fun _ => true) true Tryd.f5.params.toList args.toList ds p := hA0
  have hsz : (DataW.weightsEach Tryd.prog (Tryd.f5.params.toList ++ Rows.blocksEdgesSpec.plain.varTypes Tryd.prog) (ds ++ gs)).all (· ≤ reachBytes) = true := hsz0
  rw [Tryd.params5] at hA hval hsz
  obtain ⟨v0, vs0, d0, ds0, p0, q0, hargs, rfl, rfl, h0, r0⟩ := trodAll_cons hA
  obtain ⟨rfl, rfl, rfl⟩ := trodAll_nil r0
  obtain rfl : args = #[v0] := by cases args; simp_all
  obtain ⟨rfl, rfl⟩ := trodVars_none hV
  have k0 := h0
  have lt0 : ∀ x ∈ p0, x.block < W.heap.size := by obtain ⟨m, hm⟩ := k0; exact DataW.trod_lt m _ _ _ hm
  obtain ⟨ad, n, cap, f, rfl, zad, tf, sn⟩ := open_bools (hval 0 45 v0 rfl rfl) h0
  have ln : n * 1 ≤ 140737488351232 := by
    rcases sn with rfl | ⟨el, sp, e, hl⟩
    · omega
    · have := sized_slice hsz (j := 0) (t := 45) (e := 4) rfl (by rw [e]; rfl) Tryd.underlying45
      rw [show Tryd.prog.bytesOf 4 = 1 by kernel_rfl, hl] at this
      simp only [reachBytes] at this
      omega
  have hT := asc_of hL
  clear hA0 hval0 hL
  refine (walk ad n cap f W zad tf ln hT).mono fun e W' ⟨he, bel⟩ => ?_
  subst he
  exact ⟨_, rfl, _, _, _, [], _, [], hW', trodAll_mk1 (shut_bool Tryd.underlying4 _), (trodAll_cons_mk (Below.trod laidOut (by kernel_rfl) (of_decide_eq_true (by kernel_rfl)) k0 bel lt0) trodAll_mk0), rfl, bel.frame _, fun h => by cases h⟩
theorem row_holds : Rows.BlocksEdgesSaid :=
  OpenClaim.holds_of_wide 5 Tryd.f5 rfl rfl rfl rfl rfl rfl rfl ⟨rfl, rfl, rfl, rfl, rfl⟩ rfl rfl rfl rfl rfl (by kernel_rfl) Tryd.func5 (by kernel_rfl)
    (of_decide_eq_true (by kernel_rfl)) (by unfold Func.isWrapper; first | (rw [if_pos (by decide +kernel)]; kernel_rfl) | (rw [if_neg (by decide +kernel)]; exact ⟨rfl, rfl⟩))
    (fun os started H enc _ => lifted os started H enc)
end Go.Proofs.YtjnegbjgogkamaaDoor.LawEdges
namespace Go.Proofs.YtjnegbjgogkamaaDoor
/-- THE STATEMENT, ITS TABLES TIED TO THE TEXTS. -/
theorem blocksEdges_proved : Rows.BlocksEdgesCardSaid :=
  Claim7.holds_tied_plain_at .later [] [.listed, .data] true (true, "25e70c5a78ee0586a3f76f535056dbfc73b1d5f8467cc660001d44cea8c18377") false
    LawEdges.row_holds (fun _ h => by cases h) (by kernel_rfl) (fun _ h => by cases h) blocksEdges_row_tie rfl ⟨rfl, rfl⟩ (by kernel_rfl) rfl
    (fun f fn hf hfn => by
      obtain rfl : f = 5 := Option.some.inj ((show Tryd.prog.funcNamed "relay/relaylaw10.BlocksEdges" = some 5 by kernel_rfl).symm.trans hf) |>.symm
      obtain rfl : fn = Tryd.f5 := (Option.some.inj (Tryd.func5.symm.trans hfn)).symm
      exact ⟨by kernel_rfl, fun j t ht => by
        rw [Tryd.params5] at ht
        have hm : t ∈ [45] := by simpa using Array.mem_of_getElem? ht
        have hall : ([45].all fun u => !Tryd.prog.wantsStandIn u) = true := by kernel_rfl
        exact (show Tryd.prog.wantsStandIn t = false by simpa using List.all_eq_true.1 hall t hm)⟩)
    (by kernel_rfl)
end Go.Proofs.YtjnegbjgogkamaaDoor
