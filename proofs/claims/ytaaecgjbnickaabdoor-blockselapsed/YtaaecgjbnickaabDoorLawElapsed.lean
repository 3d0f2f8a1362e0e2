/- BlocksElapsed is proved: for every number of a block, every span and every list of ticks the statement's function returns true, and the arguments read as they did; no condition but the table that the card ties. -/
import Derived.Test.YtaaecgjbnickaabDoorBlkN
import Derived.Test.YtaaecgjbnickaabDoorBlkO
import Derived.Deep.DeepCutAuto
import Derived.Deep.Light
import Derived.Test.YtaaecgjbnickaabDoorOpenK
import Derived.Test.YtaaecgjbnickaabDoorTie
import Derived.Test.YtaaecgjbnickaabDoorCards
import Derived.ChangeOld
import Derived.ChangeMaps5
import Derived.SevenTiedAt
import Derived.Stop.Joined
namespace Go.Proofs.YtaaecgjbnickaabDoor.LawElapsed
set_option linter.unusedVariables false
open Go.RowKit Go.Proofs.YtaaecgjbnickaabDoor Go.ChangeShapes Go.WideShapes Go.ChangeAt Go.Joins
set_option maxHeartbeats 8000000 in
theorem walk (kd pt : Int) (ad : Option Addr) (n cap : Nat) (f : Nat → Tk) (w : World) (hpt : -9223372036854775808 ≤ pt ∧ pt < 9223372036854775808) (h0 : ad = none → n = 0 ∧ cap = 0) (hk : TkAt w ad n f) (hn : n * 16 ≤ 140737488351232) (ht : Asc w) :
    Calls Tryd.prog 6 #[.int .i64 kd, .int .i64 pt, .slice ad n cap] w fun e w' => e = .returned (.bool true) ∧ Below w.heap.size w w' := by
  have HK : Hid (TkAt w ad n f) := hk
  have HT : Hid (Asc w) := ht
  have H0 : Hid (ad = none → n = 0 ∧ cap = 0) := h0
  clear hk ht h0
  have I : Hid (∃ i, Tryd.prog.info? 37 = some i ∧ i.zero = some (.agg #[.bool false, .int .i64 0]) ∧ i.size = 2 ∧ i.bytes = 16) := by
    obtain ⟨i, hi, hz⟩ := Option.map_eq_some_iff.1 (show (Tryd.prog.info? 37).map (fun i => (i.zero, i.size, i.bytes)) = some (some (.agg #[.bool false, .int .i64 0]), 2, 16) by kernel_rfl)
    simp only [Prod.mk.injEq] at hz
    exact ⟨i, hi, hz.1, hz.2.1, hz.2.2⟩
  obtain ⟨P, EP, P0, P1⟩ := md_ex pt 1125899906842624 (by omega) (by omega)
  obtain ⟨z, EZ, Z0, Z1⟩ := md_ex kd 3 (by omega) (by omega)
  have hK : Hid (8 + z = 8 ∨ 8 + z = 9 ∨ 8 + z = 10) := by show _ ∨ _; omega
  go_enter Tryd.func6, Tryd.ntmps6
  go_wp2_with fail
  refine (StartT _ hK.out _ HT.out).mono ?_
  rintro e w1 ⟨g1, c1, rfl, hg1, hr1, hb1⟩
  have HB1 : Hid (Below w.heap.size w w1) := hb1
  have HR1 : Hid (Row3 w1 g1 6 (vlL ksT [0, 0, 0, 0, 0, 0])) := str_vl hr1
  have HK1 : Hid (TkAt w1 ad n f) := HK.out.below hb1
  clear hr1 hb1
  go_wp2_with (at_builtin; obtain ⟨i, hi, hz, hs, hy⟩ := I.out; refine wpList_app _ rfl _ _ 34 rfl w1.heap.size 37 i _ 2 16 Tryd.underlying34 hi hz hs hy rfl (by decide) _ 1 [.bool true, .int .i64 0] rfl (own_tick1 w1 _) ad n cap (tkL n f) rfl H0.out (tkL_len n f) (HK1.out.below ((Below.refl _ _).alloc (Nat.le_refl _) _)) (tkL_one n f) (by simp [maxLen]; omega) (by omega) (by simp) ?_; intro v' w2 k1 k2; rw [tkL_cons, Nat.add_comm] at k1; have H1 : Hid (w2.ownsRow w1.heap.size 37 2 v' (n + 1) (tkL (n + 1) (tkC f))) := k1; have H2 : Hid _ := k2; clear k1 k2 hi hz hs hy; obtain ⟨gt, ct, rfl, hgt, htr⟩ := own_ticks H1.out (Nat.succ_pos n); have HTR : Hid (TRow w2 gt (n + 1) (tkC f)) := htr; clear htr)
  have B2 : Hid (Below w1.heap.size w1 w2) := ((Below.refl _ _).alloc (Nat.le_refl _) _).grown H2.out (by simp) (fun k e => by cases e; exact Nat.le_refl _)
  have R2 : Hid (Row3 w2 g1 6 (vlL ksT [0, 0, 0, 0, 0, 0])) := HR1.out.below B2.out
  clear H1 H2 HR1 HK1
  have zt : gt < w2.heap.size := block_lt_of_cell (HTR.out 0 (Nat.succ_pos n)).1
  go_loopw [8, 9, 28] (fun c nw i wr => ∃ (k : Nat) (now : Int) (g cc : Nat) (d s a0 b0 x2 x4 : Int), k ≤ n + 1 ∧ i = .int .i64 k ∧ nw = .int .i64 now ∧ c = .slice (some ⟨g, 0, none⟩) 6 cc ∧ Row3 wr g 6 (vlL ksT [a0, b0, x2, d, x4, s]) ∧ okL ksT [a0, b0, x2, d, x4, s] ∧ 0 ≤ now ∧ now ≤ 2305843009213693952 ∧ 0 ≤ d ∧ d ≤ P ∧ Below w2.heap.size w2 wr) (fun _ _ i _ => n + 1 - (intOf i).toNat)
  case atStart => exact ⟨0, 0, g1, c1, 0, 0, 0, 0, 0, 0, Nat.zero_le _, rfl, rfl, rfl, R2.out, okT (.inl rfl) (by omega) (.inl rfl) (by omega) (.inl rfl) (by omega), by omega, by omega, by omega, by omega, Below.refl _ _⟩
  case round =>
    obtain ⟨k, now, g, cc, d, s, a0, b0, x2, x4, hk, rfl, rfl, rfl, hr, ho, n1, n2, dd1, dd2, hb⟩ := hrel
    have HB : Hid (Below w2.heap.size w2 wr) := hb
    have HR : Hid (Row3 wr g 6 (vlL ksT [a0, b0, x2, d, x4, s])) := hr
    have HO : Hid (okL ksT [a0, b0, x2, d, x4, s]) := ho
    have BW : Hid (Below w.heap.size w wr) := HB1.out.trans ((B2.out.trans (hb.mono B2.out.size)).mono HB1.out.size)
    by_cases hlt : k < n + 1
    · obtain ⟨d0, d1⟩ := HTR.out.below hb k hlt
      have zr := hb.size
      clear hr ho hb
      generalize htk : tkC f k = tk at *
      obtain ⟨p, x⟩ := tk
      obtain ⟨q, Eq, q0, q1⟩ := md_ex x 1099511627776 (by omega) (by omega)
      have hlt' : (k : Int) < n + 1 := by omega
      by_cases hbig : 2305843009213693952 < now + q
      · go_wp2
        go_ret
        exact ⟨rfl, BW.out.alloc BW.out.size _⟩
      · go_wp2_with fail
        refine (bit_of _ _).mono ?_
        rintro e w3 ⟨rfl, hb3⟩
        have B3 : Hid (Below wr.heap.size wr w3) := below_step ((Below.refl _ _).alloc (Nat.le_refl _) _) hb3
        obtain ⟨q3, f3⟩ := bcell hb3
        have s3 := hb3.size
        simp at s3
        have l3 : wr.heap.size < w3.heap.size := by omega
        clear hb3
        go_wp2_with fail
        refine (span_of _ _ (by omega)).mono ?_
        rintro e w4 ⟨rfl, hb4⟩
        have B4 : Hid (Below wr.heap.size wr w4) := below_step B3.out hb4
        obtain ⟨q4, f4⟩ := bcell hb4
        have l4 : wr.heap.size < w4.heap.size := Nat.lt_of_lt_of_le l3 hb4.size
        clear hb4
        have UU := inp2 w4 ksT (tN p) P 1 14 (tN p) (P % 18446744073709551616) rfl rfl (tN_mod p) rfl
        go_wp2_with fail
        refine (stepT (8 + z) _ ⟨g, 0, none⟩ _ _ _ (tN p) P a0 b0 x2 d x4 s _ (stokT _ hK.out _) ((HR.out.below B4.out).at.below (below_alloc' _ _)) UU HO.out (tN_01 p) (by omega)).mono ?_
        rintro e w5 ⟨g5, rfl, hg5, hr5, hb5⟩
        have B5 : Hid (Below wr.heap.size wr w5) := below_step (B4.out.alloc B4.out.size _) hb5
        have x5 : w5.cell? ⟨wr.heap.size, 0, none⟩ = some (.bool p) := by
          rw [hb5.cell (p := ⟨wr.heap.size, 0, none⟩) (by simp; omega), (below_alloc' w4 _).cell (p := ⟨wr.heap.size, 0, none⟩) l4, q4 _ _ l3, q3 _ _ (by simp)]; simp
        have y5 : wr.heap.size < w5.heap.size := block_lt_of_cell x5
        obtain ⟨od, os, oc, oe⟩ := okL_ex HO.out
        have OK := okLT (8 + z) (clN (now + q)) (tN p) P x2 d x4 s hK.out (by rw [clN_in (by omega)]; omega) (tN_01 p) (by omega) oc od oe os
        obtain ⟨x2', d', s', N, nd1, nd2⟩ := el_next (8 + z) (now + q) (tN p) P x2 d x4 s hK.out (by omega) P0 ⟨dd1, dd2⟩
        rw [clN_in (by omega)] at OK hr5
        rw [N] at OK hr5
        have HR5 : Hid (Row3 w5 g5 6 (vlL ksT [tN p, P, x2', d', tN p, s'])) := hr5
        have HO5 : Hid (okL ksT [tN p, P, x2', d', tN p, s']) := OK
        obtain ⟨v0, v1, v2⟩ := hr5.val 0 0 (by decide) rfl
        obtain ⟨v3, v4, v5⟩ := hr5.val 1 3 (by decide) rfl
        obtain ⟨v9, v10, v11⟩ := hr5.val 3 9 (by decide) rfl
        have v0' : w5.cell? ⟨g5, 0, none⟩ = some (.int .u8 1) := v0
        have v1' : w5.cell? ⟨g5, 1, none⟩ = some (.int .u64 (tN p)) := by rw [v1]; show some (Value.int _ (tN _ % _)) = _; rw [tN_mod]
        have v2' : w5.cell? ⟨g5, 2, none⟩ = some (.string ⟨#[]⟩) := v2
        have v3' : w5.cell? ⟨g5, 3, none⟩ = some (.int .u8 14) := v3
        have v4' : w5.cell? ⟨g5, 4, none⟩ = some (.int .u64 (P % 18446744073709551616)) := v4
        have v5' : w5.cell? ⟨g5, 5, none⟩ = some (.string ⟨#[]⟩) := v5
        have v9' : w5.cell? ⟨g5, 9, none⟩ = some (.int .u8 14) := v9
        have md : d' % 18446744073709551616 = d' := by omega
        have v10' : w5.cell? ⟨g5, 10, none⟩ = some (.int .u64 d') := by rw [v10]; show some (Value.int _ (d' % _)) = _; rw [md]
        have z5 : g5 < w5.heap.size := block_lt_of_cell v0
        have UW : IntKind.u64.wrap P = P := by rw [IntKind.wrap_u64]; omega
        have dG : decide (P < d') = false := dec_f (by omega)
        have dG2 : ¬ P < d' := by omega
        clear hr5 hb5 UU OK N v0 v1 v2 v3 v4 v5 v9 v10 v11 q3 q4 f3 f4 od os oc oe md
        have sn := sl_nil ⟨g5, 0, none⟩ 6 6
        have nv := neqI
        go_wp2_with fail
        refine wp_region_sub2 (by kernel_rfl) (by kernel_rfl) ?_
        intro cx
        repeat (first | go_big_quiet_skip | (go_big_quiet_want; go_big_quiet_op; first | go_big_quiet_on | (refine ⟨_, fun _ => rfl, ?_⟩; go_big_quiet_on) | go_big_quiet_call (first | (go_at_call 9; exact calls_sub (bit_of _ _)) | (go_at_call 11; exact calls_sub (span_of _ _ (by omega))))))
        refine wpQuiet_nil ?_
        rintro _ ⟨y, rfl⟩
        clear cx
        have BY : Hid (Below w5.heap.size w5 y.w) := y.h
        go_wp2
        exact ⟨⟨k + 1, now + q, g5, 6, d', s', tN p, P, x2', tN p, by omega, by go_num, rfl, rfl, HR5.out.below BY.out, HO5.out, by omega, by omega, by omega, by omega, (HB.out.trans (B5.out.mono HB.out.size)).trans (BY.out.mono (Nat.le_trans HB.out.size B5.out.size))⟩, by simp [intOf]; omega⟩
    · have ek : k = n + 1 := by omega
      clear hr ho hb
      go_wp2
      go_ret
      exact ⟨rfl, BW.out⟩

theorem own : ownKnob Tryd.prog.godebug = none := by kernel_rfl
theorem laidOut : laidOutB Tryd.prog = true := by kernel_rfl
set_option maxRecDepth 100000 in
theorem lifted (os : Os) (started : os.Started) (H : Type) (enc : TypeId × Value → H) :
    ReturnsInHanded {} Tryd.checked os 6 .any (fun w args => (Rows.blocksElapsedSpec.pre enc Tryd.prog Tryd.f6 [] false w args ∧ laidMetH Tryd.prog Rows.blocksElapsedRow.laid w) ∧ sizedMet enc Tryd.prog Tryd.f6 (OpenSpec.ofChange Rows.blocksElapsedSpec) false w args)
      (Rows.blocksElapsedSpec.post enc Tryd.prog Tryd.f6 false true false false) := by
  refine returnsInHanded_of_change_and (C := Tryd.checked) (X := fun w _ => laidMetH Tryd.prog Rows.blocksElapsedRow.laid w) (fun _ _ _ hh h => h.of_heap hh) own started (by kernel_rfl) Tryd.func6
    (ChangeSpec.witness_shaped (enc := enc) (C := Tryd.checked) (os := os) (X := fun w _ => laidMetH Tryd.prog Rows.blocksElapsedRow.laid w) false (World.laidAll Tryd.prog os Rows.blocksElapsedRow.laid) #[.int .i64 0, .int .i64 0, .slice none 0 0] 8 (World.laidAll_os _ _ _)
      (World.shaped_of_ZipB (by kernel_rfl) (by kernel_rfl)) (by kernel_rfl) (by kernel_rfl) (by kernel_rfl)
      (by rw [MakeChecks.laidMetH_plain _ _ _ (by kernel_rfl)]; exact laidMet_laidAll _ (by kernel_rfl) (by kernel_rfl))) ?_
  intro W base args ds gs before hval0 hW _ hsz0 hL _
  have hval : ∀ (j : Nat) t v, Tryd.f6.params[j]? = some t → args[j]? = some v → Value.okWide Tryd.prog W .any base t v := hval0
  have hW' := hW
  obtain ⟨p, q, hA0, hV, rfl, hfz, hnd⟩ := hW
  have hA : DataW.TrodAll enc Tryd.prog W 0 (fun _ => true) true Tryd.f6.params.toList args.toList ds p := hA0
  have hsz : (DataW.weightsEach Tryd.prog (Tryd.f6.params.toList ++ Rows.blocksElapsedSpec.plain.varTypes Tryd.prog) (ds ++ gs)).all (· ≤ reachBytes) = true := hsz0
  rw [Tryd.params6] at hA hval hsz
  obtain ⟨v0, vs0, d0, ds0, p0, q0, hargs, rfl, rfl, h0, r0⟩ := trodAll_cons hA
  obtain ⟨v1, vs1, d1, ds1, p1, q1, rfl, rfl, rfl, h1, r1⟩ := trodAll_cons r0
  obtain ⟨v2, vs2, d2, ds2, p2, q2, rfl, rfl, rfl, h2, r2⟩ := trodAll_cons r1
  obtain ⟨rfl, rfl, rfl⟩ := trodAll_nil r2
  obtain rfl : args = #[v0, v1, v2] := by cases args; simp_all
  obtain ⟨rfl, rfl⟩ := trodVars_none hV
  obtain ⟨kd, rfl, rfl, rfl, wkd⟩ := open_int Tryd.underlying3 (hval 0 3 v0 rfl rfl) h0
  have bkd := bounds_i64 wkd
  obtain ⟨pt, rfl, rfl, rfl, wpt⟩ := open_int Tryd.underlying3 (hval 1 3 v1 rfl rfl) h1
  have bpt := bounds_i64 wpt
  have k2 := h2
  have lt2 : ∀ x ∈ p2, x.block < W.heap.size := by obtain ⟨m, hm⟩ := k2; exact DataW.trod_lt m _ _ _ hm
  obtain ⟨ad, n, cap, f, rfl, zad, tf, sn⟩ := open_ticks (hval 2 34 v2 rfl rfl) h2
  have ln : n * 16 ≤ 140737488351232 := by
    rcases sn with rfl | ⟨el, sp, e, hl⟩
    · omega
    · have := sized_slice hsz (j := 2) (t := 34) (e := 37) rfl (by rw [e]; rfl) Tryd.underlying34
      rw [show Tryd.prog.bytesOf 37 = 16 by kernel_rfl, hl] at this
      simp only [reachBytes] at this
      omega
  have hT := asc_of hL
  clear hA0 hval0 hL
  refine (walk kd pt ad n cap f W (by omega) zad tf ln hT).mono fun e W' ⟨he, bel⟩ => ?_
  subst he
  exact ⟨_, rfl, _, _, _, [], _, [], hW', trodAll_mk1 (shut_bool Tryd.underlying4 _), (trodAll_cons_mk (shut_int Tryd.underlying3 wkd) (trodAll_cons_mk (shut_int Tryd.underlying3 wpt) (trodAll_cons_mk (Below.trod laidOut (by kernel_rfl) (of_decide_eq_true (by kernel_rfl)) k2 bel lt2) trodAll_mk0))), rfl, bel.frame _, fun h => by cases h⟩
theorem row_holds : Rows.BlocksElapsedSaid :=
  OpenClaim.holds_of_wide 6 Tryd.f6 rfl rfl rfl rfl rfl rfl rfl ⟨rfl, rfl, rfl, rfl, rfl⟩ rfl rfl rfl rfl rfl (by kernel_rfl) Tryd.func6 (by kernel_rfl)
    (of_decide_eq_true (by kernel_rfl)) (by unfold Func.isWrapper; first | (rw [if_pos (by decide +kernel)]; kernel_rfl) | (rw [if_neg (by decide +kernel)]; exact ⟨rfl, rfl⟩))
    (fun os started H enc _ => lifted os started H enc)
end Go.Proofs.YtaaecgjbnickaabDoor.LawElapsed
namespace Go.Proofs.YtaaecgjbnickaabDoor
/-- THE STATEMENT, ITS TABLES TIED TO THE TEXTS. -/
theorem blocksElapsed_proved : Rows.BlocksElapsedCardSaid :=
  Claim7.holds_tied_plain_at .later [] [.listed, .data] true (true, "2bc1beed4253d2ff1f43974bf2eafbe6f11bb5962f2e96de7f0810dc18eb0f4b") false
    LawElapsed.row_holds (fun _ h => by cases h) (by kernel_rfl) (fun _ h => by cases h) blocksElapsed_row_tie rfl ⟨rfl, rfl⟩ (by kernel_rfl) rfl
    (fun f fn hf hfn => by
      obtain rfl : f = 6 := Option.some.inj ((show Tryd.prog.funcNamed "relay/relaylaw10.BlocksElapsed" = some 6 by kernel_rfl).symm.trans hf) |>.symm
      obtain rfl : fn = Tryd.f6 := (Option.some.inj (Tryd.func6.symm.trans hfn)).symm
      exact ⟨by kernel_rfl, fun j t ht => by
        rw [Tryd.params6] at ht
        have hm : t ∈ [3, 3, 34] := by simpa using Array.mem_of_getElem? ht
        have hall : ([3, 3, 34].all fun u => !Tryd.prog.wantsStandIn u) = true := by kernel_rfl
        exact (show Tryd.prog.wantsStandIn t = false by simpa using List.all_eq_true.1 hall t hm)⟩)
    (by kernel_rfl)
end Go.Proofs.YtaaecgjbnickaabDoor
