/- BlocksCounts is proved: for every two lists of truth values and every number the statement's function returns true, and the arguments read as they did; no condition but the table that the card ties. -/
import Derived.Test.YtaaecgjbnickaaaDoorBlkQ
import Derived.Deep.DeepCutAuto
import Derived.Deep.Light
import Derived.Test.YtaaecgjbnickaaaDoorOpenB
import Derived.Test.YtaaecgjbnickaaaDoorTie
import Derived.Test.YtaaecgjbnickaaaDoorCards
import Derived.ChangeOld
import Derived.ChangeMaps5
import Derived.SevenTiedAt
import Derived.Stop.Joined
namespace Go.Proofs.YtaaecgjbnickaaaDoor.LawCounts
set_option linter.unusedVariables false
open Go.RowKit Go.Proofs.YtaaecgjbnickaaaDoor Go.ChangeShapes Go.WideShapes Go.ChangeAt Go.Joins
theorem stok5 (now : Int) : StOk 5 ksC.size ksC now := fun a cap v w h1 h2 h3 => Step_5 a cap v now w h1 h2 h3
/-- Is the counter reset? -/
def rsN (m : Nat) (fr : Nat → Bool) (k : Nat) : Bool := if 0 < k ∧ k ≤ m then fr (k - 1) else false
set_option maxHeartbeats 8000000 in
theorem walk (ad ar : Option Addr) (n cap m capr : Nat) (f fr : Nat → Bool) (pv : Int) (w : World) (hpv : -9223372036854775808 ≤ pv ∧ pv < 9223372036854775808) (h0 : ad = none → n = 0 ∧ cap = 0) (hk : BoAt w ad n f) (hn : n * 1 ≤ 140737488351232) (h0r : ar = none → m = 0 ∧ capr = 0) (hkr : BoAt w ar m fr) (hm : m * 1 ≤ 140737488351232) (ht : Asc w) :
    Calls Tryd.prog 6 #[.slice ad n cap, .slice ar m capr, .int .i64 pv] w fun e w' => e = .returned (.bool true) ∧ Below w.heap.size w w' := by
  have HK : Hid (BoAt w ad n f) := hk
  have HKR : Hid (BoAt w ar m fr) := hkr
  have HT : Hid (Asc w) := ht
  have H0 : Hid (ad = none → n = 0 ∧ cap = 0) := h0
  have H0R : Hid (ar = none → m = 0 ∧ capr = 0) := h0r
  clear hk hkr ht h0 h0r
  have I : Hid (∃ i, Tryd.prog.info? 4 = some i ∧ i.zero = some (.bool false) ∧ i.size = 1 ∧ i.bytes = 1) := by
    obtain ⟨i, hi, hz⟩ := Option.map_eq_some_iff.1 (show (Tryd.prog.info? 4).map (fun i => (i.zero, i.size, i.bytes)) = some (some (.bool false), 1, 1) by kernel_rfl)
    simp only [Prod.mk.injEq] at hz
    exact ⟨i, hi, hz.1, hz.2.1, hz.2.2⟩
  obtain ⟨P, EP, P0, P1⟩ := i16_ex pv
  go_enter Tryd.func6, Tryd.ntmps6
  go_wp2_with fail
  refine (Start_5 _ HT.out).mono ?_
  rintro e w1 ⟨g1, c1, rfl, hg1, hr1, hb1⟩
  have HB1 : Hid (Below w.heap.size w w1) := hb1
  have HR1 : Hid (Row3 w1 g1 6 (vlL ksC [0, 0, 0, 0, 0, 0])) := str_vl hr1
  have HK1 : Hid (BoAt w1 ad n f) := HK.out.below hb1
  have HKR1 : Hid (BoAt w1 ar m fr) := HKR.out.below hb1
  clear hr1 hb1
  go_wp2_with (at_builtin; obtain ⟨i, hi, hz, hs, hy⟩ := I.out; refine wpList_app _ rfl _ _ 45 rfl w1.heap.size 4 i _ 1 1 Tryd.underlying45 hi hz hs hy rfl (by decide) _ 1 [.bool true] rfl (own_bool1 w1 _) ad n cap (boL n f) rfl H0.out (by rw [boL_len]; omega) ((HK1.out.below ((Below.refl _ _).alloc (Nat.le_refl _) _)).src) (boL_one n f) (by simp [maxLen]; omega) (by omega) (by simp) ?_; intro v' w2 k1 k2; rw [boL_cons, Nat.add_comm] at k1; have H1 : Hid (w2.ownsRow w1.heap.size 4 1 v' (n + 1) (boL (n + 1) (boC f))) := k1; have H2 : Hid _ := k2; clear k1 k2 hi hz hs hy; obtain ⟨gt, ct, rfl, hgt, htr⟩ := own_bools H1.out (Nat.succ_pos n); have HTR : Hid (BRow w2 gt (n + 1) (boC f)) := htr; clear htr)
  have B2 : Hid (Below w1.heap.size w1 w2) := ((Below.refl _ _).alloc (Nat.le_refl _) _).grown H2.out (by simp) (fun k e => by cases e; exact Nat.le_refl _)
  have R2 : Hid (Row3 w2 g1 6 (vlL ksC [0, 0, 0, 0, 0, 0])) := HR1.out.below B2.out
  have KR2 : Hid (BoAt w2 ar m fr) := HKR1.out.below B2.out
  clear H1 H2 HR1 HK1 HKR1
  have zt : gt < w2.heap.size := block_lt_of_cell (a := ⟨gt, 0, none⟩) (HTR.out 0 (Nat.succ_pos n))
  go_loopw [7, 8, 9, 21] (fun c nv wa i wr => ∃ (k : Nat) (N : Int) (was : Bool) (g cc : Nat) (a0 a1 a2 q : Int), k ≤ n + 1 ∧ i = .int .i64 k ∧ nv = .int .i64 N ∧ wa = .bool was ∧ c = .slice (some ⟨g, 0, none⟩) 6 cc ∧ Row3 wr g 6 (vlL ksC [a0, a1, a2, q, N, tN was]) ∧ okL ksC [a0, a1, a2, q, N, tN was] ∧ 0 ≤ N ∧ N ≤ 32767 ∧ Below w2.heap.size w2 wr) (fun _ _ _ i _ => n + 1 - (intOf i).toNat)
  case atStart => exact ⟨0, 0, false, g1, c1, 0, 0, 0, 0, Nat.zero_le _, rfl, rfl, rfl, rfl, R2.out, ⟨rfl, forall6 (okN1 (.inl rfl)) (okN1 (.inl rfl)) (okN3 (by decide)) (okN1 (.inl rfl)) (okN3 (by decide)) (okN1 (.inl rfl))⟩, by omega, by omega, Below.refl _ _⟩
  case round =>
    obtain ⟨k, N, was, g, cc, a0, a1, a2, q, hk, rfl, rfl, rfl, rfl, hr, ho, n1, n2, hb⟩ := hrel
    have HB : Hid (Below w2.heap.size w2 wr) := hb
    have HR : Hid (Row3 wr g 6 (vlL ksC [a0, a1, a2, q, N, tN was])) := hr
    have HO : Hid (okL ksC [a0, a1, a2, q, N, tN was]) := ho
    have BW : Hid (Below w.heap.size w wr) := HB1.out.trans ((B2.out.trans (hb.mono B2.out.size)).mono HB1.out.size)
    have KR : Hid (BoAt wr ar m fr) := KR2.out.below hb
    by_cases hlt : k < n + 1
    · have d0 := HTR.out.below hb k hlt
      have zr := hb.size
      clear hr ho hb
      generalize htk : boC f k = p at *
      have hlt' : (k : Int) < n + 1 := by omega
      go_upto_region 7 with fail
      go_cut [12] (fun s12 wx => s12 = .bool (rsN m fr k) ∧ wx = wr)
      case first =>
        by_cases c1 : k = 0
        · subst c1
          have R : Hid (rsN m fr 0 = false) := rfl
          go_wp2
          go_meet
          case rel => exact ⟨by rw [R.out], rfl⟩
        · obtain ⟨j, rfl⟩ : ∃ j, k = j + 1 := ⟨k - 1, by omega⟩
          by_cases c2 : j + 1 ≤ m
          · obtain ⟨b, rfl⟩ : ∃ b, ar = some b := by
              cases ar with
              | none => have := (H0R.out rfl).1; omega
              | some b => exact ⟨b, rfl⟩
            have d1 := KR.out b rfl j (by omega)
            have R : Hid (rsN m fr (j + 1) = fr j) := by show _ = _; unfold rsN; rw [if_pos ⟨by omega, c2⟩, Nat.add_sub_cancel]
            have jm : (j : Int) + 1 ≤ m := by omega
            go_wp2
            go_meet
            case rel => exact ⟨by rw [R.out], rfl⟩
          · have R : Hid (rsN m fr (j + 1) = false) := by show _ = _; unfold rsN; rw [if_neg (fun h => c2 h.2)]
            have jm : ¬ (j : Int) + 1 ≤ m := by omega
            go_wp2
            go_meet
            case rel => exact ⟨by rw [R.out], rfl⟩
      case rest =>
        obtain ⟨rfl, rfl⟩ := hcut
        generalize hrs : rsN m fr k = rs at *
        clear hrs
        go_wp2_with fail
        refine (bit_of _ _).mono ?_
        rintro e w3 ⟨rfl, hb3⟩
        have B3 : Hid (Below wc.heap.size wc w3) := hb3
        clear hb3
        go_wp2_with fail
        refine (bit_of _ _).mono ?_
        rintro e w4 ⟨rfl, hb4⟩
        have B4 : Hid (Below wc.heap.size wc w4) := below_step B3.out hb4
        clear hb4
        go_wp2_with fail
        refine (whole_of _ _ (by omega)).mono ?_
        rintro e w5 ⟨rfl, hb5⟩
        have B5 : Hid (Below wc.heap.size wc w5) := below_step B4.out hb5
        clear hb5
        have UU := inp3 w5 ksC (tN p) (tN rs) P 1 1 3 (tN p) (tN rs) (P % 18446744073709551616) rfl rfl rfl (tN_mod p) (tN_mod rs) rfl
        go_wp2_with fail
        refine (stepC 5 _ ⟨g, 0, none⟩ _ _ _ (tN p) (tN rs) P a0 a1 a2 q N (tN was) _ (stok5 _) ((HR.out.below B5.out).at.below (below_alloc' _ _)) UU HO.out (tN_01 p) (tN_01 rs) ⟨P0, P1⟩).mono ?_
        rintro e w6 ⟨g6, rfl, hg6, hr6, hb6⟩
        have B6 : Hid (Below wc.heap.size wc w6) := below_step (B5.out.alloc B5.out.size _) hb6
        rw [clN_in (by omega), ct_next] at hr6
        have cr := ct_rg ⟨n1, n2⟩ p rs was
        have OK : okL ksC [tN p, tN rs, P, tN (decide (P ≤ ctN N p rs was)), ctN N p rs was, tN p] := ⟨rfl, forall6 (okN1 (tN_01 _)) (okN1 (tN_01 _)) (okN3 ⟨P0, P1⟩) (okN1 (tN_01 _)) (okN3 (show -32768 ≤ ctN N p rs was ∧ ctN N p rs was ≤ 32767 from by omega)) (okN1 (tN_01 _))⟩
        obtain ⟨B, hB⟩ : ∃ B, ctN N p rs was = B := ⟨_, rfl⟩
        rw [hB] at hr6 OK cr
        have HBe : Hid (ctN N p rs was = B) := hB
        obtain ⟨cr1, cr2⟩ := cr
        have HR6 : Hid (Row3 w6 g6 6 (vlL ksC [tN p, tN rs, P, tN (decide (P ≤ B)), B, tN p])) := hr6
        have HO6 : Hid (okL ksC [tN p, tN rs, P, tN (decide (P ≤ B)), B, tN p]) := OK
        obtain ⟨v9, v10, v11⟩ := hr6.val 3 9 (by decide) rfl
        obtain ⟨v12, v13, v14⟩ := hr6.val 4 12 (by decide) rfl
        have v9' : w6.cell? ⟨g6, 9, none⟩ = some (.int .u8 1) := v9
        have v10' : w6.cell? ⟨g6, 10, none⟩ = some (.int .u64 (tN (decide (P ≤ B)))) := by rw [v10]; show some (Value.int _ (tN _ % _)) = _; rw [tN_mod]
        have v11' : w6.cell? ⟨g6, 11, none⟩ = some (.string ⟨#[]⟩) := v11
        have v12' : w6.cell? ⟨g6, 12, none⟩ = some (.int .u8 3) := v12
        have v13' : w6.cell? ⟨g6, 13, none⟩ = some (.int .u64 (B % 18446744073709551616)) := v13
        have v14' : w6.cell? ⟨g6, 14, none⟩ = some (.string ⟨#[]⟩) := v14
        have z6 : g6 < w6.heap.size := block_lt_of_cell v9
        clear hr6 hb6 UU OK v9 v10 v11 v12 v13 v14 hB d0
        have sn := sl_nil ⟨g6, 0, none⟩ 6 6
        have nv := neqI
        cases rs
        · cases p
          · have EB : B = N := by rw [← HBe.out]; unfold ctN; simp
            subst EB
            go_wp2_with fail
            refine wp_region_sub2 (by kernel_rfl) (by kernel_rfl) ?_
            intro cx
            repeat (first | go_big_quiet_skip | (go_big_quiet_want; go_big_quiet_op; first | go_big_quiet_on | (refine ⟨_, fun _ => rfl, ?_⟩; go_big_quiet_on) | go_big_quiet_call (first | (go_at_call 24; exact calls_sub (bit_of _ _)) | (go_at_call 25; exact calls_sub (whole_of _ _ (by omega))))))
            refine wpQuiet_nil ?_
            rintro _ ⟨y, rfl⟩
            clear cx
            have BY : Hid (Below w6.heap.size w6 y.w) := y.h
            go_wp2
            exact ⟨⟨k + 1, _, _, g6, 6, tN _, tN _, P, _, by omega, by go_num, rfl, rfl, rfl, HR6.out.below BY.out, HO6.out, by omega, by omega, (HB.out.trans (B6.out.mono HB.out.size)).trans (BY.out.mono (Nat.le_trans HB.out.size B6.out.size))⟩, by simp [intOf]; omega⟩
          · cases was
            · by_cases c3 : N < 32767
              · have EB : B = N + 1 := by rw [← HBe.out]; unfold ctN; simp [c3]
                subst EB
                go_wp2_with fail
                refine wp_region_sub2 (by kernel_rfl) (by kernel_rfl) ?_
                intro cx
                repeat (first | go_big_quiet_skip | (go_big_quiet_want; go_big_quiet_op; first | go_big_quiet_on | (refine ⟨_, fun _ => rfl, ?_⟩; go_big_quiet_on) | go_big_quiet_call (first | (go_at_call 24; exact calls_sub (bit_of _ _)) | (go_at_call 25; exact calls_sub (whole_of _ _ (by omega))))))
                refine wpQuiet_nil ?_
                rintro _ ⟨y, rfl⟩
                clear cx
                have BY : Hid (Below w6.heap.size w6 y.w) := y.h
                go_wp2
                exact ⟨⟨k + 1, _, _, g6, 6, tN _, tN _, P, _, by omega, by go_num, rfl, rfl, rfl, HR6.out.below BY.out, HO6.out, by omega, by omega, (HB.out.trans (B6.out.mono HB.out.size)).trans (BY.out.mono (Nat.le_trans HB.out.size B6.out.size))⟩, by simp [intOf]; omega⟩
              · have EB : B = N := by rw [← HBe.out]; unfold ctN; simp [c3]
                subst EB
                go_wp2_with fail
                refine wp_region_sub2 (by kernel_rfl) (by kernel_rfl) ?_
                intro cx
                repeat (first | go_big_quiet_skip | (go_big_quiet_want; go_big_quiet_op; first | go_big_quiet_on | (refine ⟨_, fun _ => rfl, ?_⟩; go_big_quiet_on) | go_big_quiet_call (first | (go_at_call 24; exact calls_sub (bit_of _ _)) | (go_at_call 25; exact calls_sub (whole_of _ _ (by omega))))))
                refine wpQuiet_nil ?_
                rintro _ ⟨y, rfl⟩
                clear cx
                have BY : Hid (Below w6.heap.size w6 y.w) := y.h
                go_wp2
                exact ⟨⟨k + 1, _, _, g6, 6, tN _, tN _, P, _, by omega, by go_num, rfl, rfl, rfl, HR6.out.below BY.out, HO6.out, by omega, by omega, (HB.out.trans (B6.out.mono HB.out.size)).trans (BY.out.mono (Nat.le_trans HB.out.size B6.out.size))⟩, by simp [intOf]; omega⟩
            · have EB : B = N := by rw [← HBe.out]; unfold ctN; simp
              subst EB
              go_wp2_with fail
              refine wp_region_sub2 (by kernel_rfl) (by kernel_rfl) ?_
              intro cx
              repeat (first | go_big_quiet_skip | (go_big_quiet_want; go_big_quiet_op; first | go_big_quiet_on | (refine ⟨_, fun _ => rfl, ?_⟩; go_big_quiet_on) | go_big_quiet_call (first | (go_at_call 24; exact calls_sub (bit_of _ _)) | (go_at_call 25; exact calls_sub (whole_of _ _ (by omega))))))
              refine wpQuiet_nil ?_
              rintro _ ⟨y, rfl⟩
              clear cx
              have BY : Hid (Below w6.heap.size w6 y.w) := y.h
              go_wp2
              exact ⟨⟨k + 1, _, _, g6, 6, tN _, tN _, P, _, by omega, by go_num, rfl, rfl, rfl, HR6.out.below BY.out, HO6.out, by omega, by omega, (HB.out.trans (B6.out.mono HB.out.size)).trans (BY.out.mono (Nat.le_trans HB.out.size B6.out.size))⟩, by simp [intOf]; omega⟩
        · have EB : B = 0 := by rw [← HBe.out]; unfold ctN; simp
          subst EB
          go_wp2_with fail
          refine wp_region_sub2 (by kernel_rfl) (by kernel_rfl) ?_
          intro cx
          repeat (first | go_big_quiet_skip | (go_big_quiet_want; go_big_quiet_op; first | go_big_quiet_on | (refine ⟨_, fun _ => rfl, ?_⟩; go_big_quiet_on) | go_big_quiet_call (first | (go_at_call 24; exact calls_sub (bit_of _ _)) | (go_at_call 25; exact calls_sub (whole_of _ _ (by omega))))))
          refine wpQuiet_nil ?_
          rintro _ ⟨y, rfl⟩
          clear cx
          have BY : Hid (Below w6.heap.size w6 y.w) := y.h
          go_wp2
          exact ⟨⟨k + 1, _, _, g6, 6, tN _, tN _, P, _, by omega, by go_num, rfl, rfl, rfl, HR6.out.below BY.out, HO6.out, by omega, by omega, (HB.out.trans (B6.out.mono HB.out.size)).trans (BY.out.mono (Nat.le_trans HB.out.size B6.out.size))⟩, by simp [intOf]; omega⟩
    · have ek : k = n + 1 := by omega
      clear hr ho hb
      go_wp2
      go_ret
      exact ⟨rfl, BW.out⟩

theorem own : ownKnob Tryd.prog.godebug = none := by kernel_rfl
theorem laidOut : laidOutB Tryd.prog = true := by kernel_rfl
set_option maxRecDepth 100000 in
theorem lifted (os : Os) (started : os.Started) (H : Type) (enc : TypeId × Value → H) :
    ReturnsInHanded {} Tryd.checked os 6 .any (fun w args => (Rows.blocksCountsSpec.pre enc Tryd.prog Tryd.f6 [] false w args ∧ laidMetH Tryd.prog Rows.blocksCountsRow.laid w) ∧ sizedMet enc Tryd.prog Tryd.f6 (OpenSpec.ofChange Rows.blocksCountsSpec) false w args)
      (Rows.blocksCountsSpec.post enc Tryd.prog Tryd.f6 false true false false) := by
  refine returnsInHanded_of_change_and (C := Tryd.checked) (X := fun w _ => laidMetH Tryd.prog Rows.blocksCountsRow.laid w) (fun _ _ _ hh h => h.of_heap hh) own started (by kernel_rfl) Tryd.func6
    (ChangeSpec.witness_shaped (enc := enc) (C := Tryd.checked) (os := os) (X := fun w _ => laidMetH Tryd.prog Rows.blocksCountsRow.laid w) false (World.laidAll Tryd.prog os Rows.blocksCountsRow.laid) #[.slice none 0 0, .slice none 0 0, .int .i64 0] 8 (World.laidAll_os _ _ _)
      (World.shaped_of_ZipB (by kernel_rfl) (by kernel_rfl)) (by kernel_rfl) (by kernel_rfl) (by kernel_rfl)
      (by rw [MakeChecks.laidMetH_plain _ _ _ (by kernel_rfl)]; exact laidMet_laidAll _ (by kernel_rfl) (by kernel_rfl))) ?_
  intro W base args ds gs before hval0 hW _ hsz0 hL _
  have hval : ∀ (j : Nat) t v, Tryd.f6.params[j]? = some t → args[j]? = some v → Value.okWide Tryd.prog W .any base t v := hval0
  have hW' := hW
  obtain ⟨p, q, hA0, hV, rfl, hfz, hnd⟩ := hW
  have hA : DataW.TrodAll enc Tryd.prog W 0 (fun _ => true) true Tryd.f6.params.toList args.toList ds p := hA0
  have hsz : (DataW.weightsEach Tryd.prog (Tryd.f6.params.toList ++ Rows.blocksCountsSpec.plain.varTypes Tryd.prog) (ds ++ gs)).all (· ≤ reachBytes) = true := hsz0
  rw [Tryd.params6] at hA hval hsz
  obtain ⟨v0, vs0, d0, ds0, p0, q0, hargs, rfl, rfl, h0, r0⟩ := trodAll_cons hA
  obtain ⟨v1, vs1, d1, ds1, p1, q1, rfl, rfl, rfl, h1, r1⟩ := trodAll_cons r0
  obtain ⟨v2, vs2, d2, ds2, p2, q2, rfl, rfl, rfl, h2, r2⟩ := trodAll_cons r1
  obtain ⟨rfl, rfl, rfl⟩ := trodAll_nil r2
  obtain rfl : args = #[v0, v1, v2] := by cases args; simp_all
  obtain ⟨rfl, rfl⟩ := trodVars_none hV
  have k0 := h0
  have lt0 : ∀ x ∈ p0, x.block < W.heap.size := by obtain ⟨m, hm⟩ := k0; exact DataW.trod_lt m _ _ _ hm
  obtain ⟨ad, n, cap, f, rfl, zad, tf, sn⟩ := open_bools (hval 0 45 v0 rfl rfl) h0
  have ln : n * 1 ≤ 140737488351232 := by
    rcases sn with rfl | ⟨el, sp, e, hl⟩
    · omega
    · have := sized_slice hsz (j := 0) (t := 45) (e := 4) rfl (by rw [e]; rfl) Tryd.underlying45
      rw [show Tryd.prog.bytesOf 4 = 1 by kernel_rfl, hl] at this
      simp only [reachBytes] at this
      omega
  have k1 := h1
  have lt1 : ∀ x ∈ p1, x.block < W.heap.size := by obtain ⟨m, hm⟩ := k1; exact DataW.trod_lt m _ _ _ hm
  obtain ⟨ar, m, capr, fr, rfl, zar, tfr, sm⟩ := open_bools (hval 1 45 v1 rfl rfl) h1
  have lm : m * 1 ≤ 140737488351232 := by
    rcases sm with rfl | ⟨el, sp, e, hl⟩
    · omega
    · have := sized_slice hsz (j := 1) (t := 45) (e := 4) rfl (by rw [e]; rfl) Tryd.underlying45
      rw [show Tryd.prog.bytesOf 4 = 1 by kernel_rfl, hl] at this
      simp only [reachBytes] at this
      omega
  obtain ⟨pv, rfl, rfl, rfl, wpv⟩ := open_int Tryd.underlying3 (hval 2 3 v2 rfl rfl) h2
  have bpv := bounds_i64 wpv
  have hT := asc_of hL
  clear hA0 hval0 hL
  refine (walk ad ar n cap m capr f fr pv W (by omega) zad tf ln zar tfr lm hT).mono fun e W' ⟨he, bel⟩ => ?_
  subst he
  exact ⟨_, rfl, _, _, _, [], _, [], hW', trodAll_mk1 (shut_bool Tryd.underlying4 _), (trodAll_cons_mk (Below.trod laidOut (by kernel_rfl) (of_decide_eq_true (by kernel_rfl)) k0 bel lt0) (trodAll_cons_mk (Below.trod laidOut (by kernel_rfl) (of_decide_eq_true (by kernel_rfl)) k1 bel lt1) (trodAll_cons_mk (shut_int Tryd.underlying3 wpv) trodAll_mk0))), rfl, bel.frame _, fun h => by cases h⟩
theorem row_holds : Rows.BlocksCountsSaid :=
  OpenClaim.holds_of_wide 6 Tryd.f6 rfl rfl rfl rfl rfl rfl rfl ⟨rfl, rfl, rfl, rfl, rfl⟩ rfl rfl rfl rfl rfl (by kernel_rfl) Tryd.func6 (by kernel_rfl)
    (of_decide_eq_true (by kernel_rfl)) (by unfold Func.isWrapper; first | (rw [if_pos (by decide +kernel)]; kernel_rfl) | (rw [if_neg (by decide +kernel)]; exact ⟨rfl, rfl⟩))
    (fun os started H enc _ => lifted os started H enc)
end Go.Proofs.YtaaecgjbnickaaaDoor.LawCounts
namespace Go.Proofs.YtaaecgjbnickaaaDoor
/-- THE STATEMENT, ITS TABLES TIED TO THE TEXTS. -/
theorem blocksCounts_proved : Rows.BlocksCountsCardSaid :=
  Claim7.holds_tied_plain_at .later [] [.listed, .data] true (true, "22e480620a31a6b39e3022b527e486fc7dd3009f694c7ac5d1fa99e6321fb44a") false
    LawCounts.row_holds (fun _ h => by cases h) (by kernel_rfl) (fun _ h => by cases h) blocksCounts_row_tie rfl ⟨rfl, rfl⟩ (by kernel_rfl) rfl
    (fun f fn hf hfn => by
      obtain rfl : f = 6 := Option.some.inj ((show Tryd.prog.funcNamed "relay/relaylaw10.BlocksCounts" = some 6 by kernel_rfl).symm.trans hf) |>.symm
      obtain rfl : fn = Tryd.f6 := (Option.some.inj (Tryd.func6.symm.trans hfn)).symm
      exact ⟨by kernel_rfl, fun j t ht => by
        rw [Tryd.params6] at ht
        have hm : t ∈ [45, 45, 3] := by simpa using Array.mem_of_getElem? ht
        have hall : ([45, 45, 3].all fun u => !Tryd.prog.wantsStandIn u) = true := by kernel_rfl
        exact (show Tryd.prog.wantsStandIn t = false by simpa using List.all_eq_true.1 hall t hm)⟩)
    (by kernel_rfl)
end Go.Proofs.YtaaecgjbnickaaaDoor
