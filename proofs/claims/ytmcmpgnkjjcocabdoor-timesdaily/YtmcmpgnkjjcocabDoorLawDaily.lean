/- TimesDaily is proved: for every number the statement's function returns true, and its argument reads as it did; the listed tables hold what the programs' texts lay in them (tied). -/
import Derived.Test.YtmcmpgnkjjcocabDoorWeekV
import Derived.Test.YtmcmpgnkjjcocabDoorLaidU
import Derived.Test.YtmcmpgnkjjcocabDoorTie
import Derived.Test.YtmcmpgnkjjcocabDoorCards
import Derived.ShutString
import Derived.ChangeOld
import Derived.Below
import Derived.SevenTiedAt
import Derived.Stop.Joined
namespace Go.Proofs.YtmcmpgnkjjcocabDoor.LawTimesDaily
set_option linter.unusedVariables false
open Go.ChangeShapes Go.WideShapes Go.ChangeAt Go.RowKit
theorem own : ownKnob Tryd.prog.godebug = none := by kernel_rfl
theorem of_laid {W : World} (h : laidMetH Tryd.prog Rows.timesDailyRow.laid W) : Tab W ∧ UT W := by
  rw [MakeChecks.laidMetH_plain _ _ _ (by kernel_rfl)] at h
  refine ⟨tab_of ?_, ut_of ?_⟩
  · exact h.filter fun x => x.1 == "relay/times.monthDays"
  · exact h.filter fun x => x.1 == "relay/times.units"
section
variable (n : Int) (w : World)
set_option maxHeartbeats 1000000 in
theorem walk_no (h : n < 0 ∨ 84005 < n) (hT : Tab w) (u : UT w) :
    Calls Tryd.prog 4 #[.int .i64 n] w fun e w' => e = .returned (.bool true) ∧ Below w.heap.size w w' := by
  have HT : Hid (Tab w) := hT
  have U : Hid (UT w) := u
  have C : Hid _ := fun w => Civil_no n w (by omega)
  have e1 : (n == 84005) = false := by simp; omega
  clear hT u
  rcases h with h | h
  all_goals
    go_enter Tryd.func4, Tryd.ntmps4
    go_wp2_with (first | (go_at_call 9; refine (C.out _).mono ?_; rintro e w1 ⟨rfl, rfl⟩) | (go_at_call 10; refine (awake_of _ U.out HT.out).mono ?_; rintro e w2 ⟨rfl, hb⟩))
    go_ret
    exact ⟨rfl, hb⟩
set_option maxHeartbeats 1000000 in
theorem walk_last (hT : Tab w) (u : UT w) :
    Calls Tryd.prog 4 #[.int .i64 84005] w fun e w' => e = .returned (.bool true) ∧ Below w.heap.size w w' := by
  have HT : Hid (Tab w) := hT
  have U : Hid (UT w) := u
  have C : Hid _ := fun w hT => Civil_yes 84005 w (by omega) (by omega) hT
  clear hT u
  go_enter Tryd.func4, Tryd.ntmps4
  go_wp2_with (first | (go_at_call 9; refine (C.out _ HT.out).mono ?_; rintro e w1 ⟨k, m, d, hAt, hk, rfl, rfl⟩) | (go_at_call 10; refine (awake_of _ U.out HT.out).mono ?_; rintro e w2 ⟨rfl, hb⟩))
  go_ret
  exact ⟨rfl, hb⟩
set_option maxHeartbeats 2000000 in
theorem walk_in (h0 : 0 ≤ n) (h1 : n < 84005) (hT : Tab w) :
    Calls Tryd.prog 4 #[.int .i64 n] w fun e w' => e = .returned (.bool true) ∧ Below w.heap.size w w' := by
  have HT : Hid (Tab w) := hT
  have C : Hid _ := fun w hT => Civil_yes n w h0 (by omega) hT
  have C' : Hid _ := fun w hT => Civil_yes (n + 1) w (by omega) (by omega) hT
  have D : Hid _ := fun y m d => Days_of y m d w hT
  have W1 : Hid _ := fun n g => Week_of n w g
  have WN : Hid (wk (n + 1) = (wk n + 1) % 7) := wk_next n
  have wb : 0 ≤ wk n ∧ wk n < 7 := by unfold wk; omega
  obtain ⟨wb0, wb1⟩ := wb
  clear hT
  go_enter Tryd.func4, Tryd.ntmps4
  go_wp2_with fail
  refine (C.out _ HT.out).mono ?_
  rintro e w1 ⟨k, m, d, hAt, hk, rfl, rfl⟩
  have A : Hid (Cal.At n k m d) := hAt
  clear hAt
  have hm := A.out.hm
  have dl := A.out.lo
  have dh : d < 31 := by have := A.out.hi; have := Cal.dim_bd (1970 + (k : Int)) ((m : Int) + 1); omega
  go_wp2_with fail
  refine (D.out _ _ _).mono ?_
  rintro e w2 ⟨he, rfl⟩
  have dt := at_date A.out hk
  have he2 : e = .returned (.tuple #[.int .i64 n, .bool true]) := by rw [he, ← DV_t dt.1 dt.2.symm]
  clear he dt
  subst he2
  go_wp2_with fail
  refine (C'.out _ HT.out).mono ?_
  rintro e w3 ⟨k', m', d', hAt', hk', rfl, rfl⟩
  have NX := A.out.next hAt'
  clear hAt'
  rcases NX with ⟨rfl, rfl, rfl⟩ | ⟨rfl, rfl, rfl⟩ | ⟨rfl, rfl, rfl, rfl⟩
  all_goals
    go_wp2_with (first | (go_at_call 12; refine (W1.out _ (by omega)).mono ?_; rintro e w4 ⟨rfl, rfl⟩))
  all_goals
    go_ret
    exact ⟨ret_bool (by rw [WN.out]; simp), Below.refl _ _⟩
theorem walk (hT : Tab w) (u : UT w) :
    Calls Tryd.prog 4 #[.int .i64 n] w fun e w' => e = .returned (.bool true) ∧ Below w.heap.size w w' := by
  by_cases a : n < 0 ∨ 84005 < n
  · exact walk_no n w a hT u
  by_cases b : n = 84005
  · subst b; exact walk_last w hT u
  · exact walk_in n w (by omega) (by omega) hT
end
set_option maxRecDepth 100000 in
theorem lifted (os : Os) (started : os.Started) (H : Type) (enc : TypeId × Value → H) :
    ReturnsInHanded {} Tryd.checked os 4 .any (fun w args => (Rows.timesDailySpec.pre enc Tryd.prog Tryd.f4 [] false w args ∧ laidMetH Tryd.prog Rows.timesDailyRow.laid w) ∧ sizedMet enc Tryd.prog Tryd.f4 (OpenSpec.ofChange Rows.timesDailySpec) false w args)
      (Rows.timesDailySpec.post enc Tryd.prog Tryd.f4 false true false false) := by
  refine returnsInHanded_of_change_and (C := Tryd.checked) (X := fun w _ => laidMetH Tryd.prog Rows.timesDailyRow.laid w) (fun _ _ _ hh h => h.of_heap hh) own started (by kernel_rfl) Tryd.func4
    (ChangeSpec.witness_shaped (enc := enc) (C := Tryd.checked) (os := os) (X := fun w _ => laidMetH Tryd.prog Rows.timesDailyRow.laid w) false (World.laidAll Tryd.prog os Rows.timesDailyRow.laid) #[.int .i64 0] 8 (World.laidAll_os _ _ _)
      (World.shaped_of_ZipB (by kernel_rfl) (by kernel_rfl)) (by kernel_rfl) (by kernel_rfl) (by kernel_rfl)
      (by rw [MakeChecks.laidMetH_plain _ _ _ (by kernel_rfl)]; exact laidMet_laidAll _ (by kernel_rfl) (by kernel_rfl))) ?_
  intro W base args ds gs before hval0 hW _ _ hL _
  have hval : ∀ (j : Nat) t v, Tryd.f4.params[j]? = some t → args[j]? = some v → Value.okWide Tryd.prog W .any base t v := hval0
  have hW' := hW
  obtain ⟨p, q, hA0, hV, rfl, hfz, hnd⟩ := hW
  have hA : DataW.TrodAll enc Tryd.prog W 0 (fun _ => true) true Tryd.f4.params.toList args.toList ds p := hA0
  rw [Tryd.params4] at hA hval
  obtain ⟨v0, vs0, d0, ds0, p0, q0, hargs, rfl, rfl, h0, r0⟩ := trodAll_cons hA
  obtain ⟨rfl, rfl, rfl⟩ := trodAll_nil r0
  obtain rfl : args = #[v0] := by cases args; simp_all
  obtain ⟨rfl, rfl⟩ := trodVars_none hV
  obtain ⟨n, rfl, rfl, rfl, wn⟩ := open_int Tryd.underlying3 (hval 0 3 v0 rfl rfl) h0
  obtain ⟨hT, hU⟩ := of_laid hL
  clear hA0 hval0 hL
  refine (walk n W hT hU).mono fun e W' ⟨he, bel⟩ => ?_
  subst he
  exact ⟨_, rfl, _, _, _, [], _, [], hW', trodAll_mk1 (shut_bool Tryd.underlying4 _), (trodAll_cons_mk (shut_int Tryd.underlying3 wn) trodAll_mk0), rfl, bel.frame _, fun h => by cases h⟩
theorem row_holds : Rows.TimesDailySaid :=
  OpenClaim.holds_of_wide 4 Tryd.f4 rfl rfl rfl rfl rfl rfl rfl ⟨rfl, rfl, rfl, rfl, rfl⟩ rfl rfl rfl rfl rfl (by kernel_rfl) Tryd.func4 (by kernel_rfl)
    (of_decide_eq_true (by kernel_rfl)) (by unfold Func.isWrapper; first | (rw [if_pos (by decide +kernel)]; kernel_rfl) | (rw [if_neg (by decide +kernel)]; exact ⟨rfl, rfl⟩))
    (fun os started H enc _ => lifted os started H enc)
end Go.Proofs.YtmcmpgnkjjcocabDoor.LawTimesDaily
namespace Go.Proofs.YtmcmpgnkjjcocabDoor
/-- THE STATEMENT, ITS TABLES TIED TO THE TEXTS. -/
theorem timesDaily_proved : Rows.TimesDailyCardSaid :=
  Claim7.holds_tied_plain_at .later [] [.data, .data, .data, .pinned, .pinned] true (true, "38e92d460332aee4d0cad945e44f25e8d31bd2d78dfd1e7e69e53907b60b67d3") false
    LawTimesDaily.row_holds (fun _ h => by cases h) (by kernel_rfl) (fun _ h => by cases h) timesDaily_row_tie rfl ⟨rfl, rfl⟩ (by kernel_rfl) rfl
    (fun f fn hf hfn => by
      obtain rfl : f = 4 := Option.some.inj ((show Tryd.prog.funcNamed "relay/relaylaw02.TimesDaily" = some 4 by kernel_rfl).symm.trans hf) |>.symm
      obtain rfl : fn = Tryd.f4 := (Option.some.inj (Tryd.func4.symm.trans hfn)).symm
      exact ⟨by kernel_rfl, fun j t ht => by
        rw [Tryd.params4] at ht
        have hm : t ∈ [3] := by simpa using Array.mem_of_getElem? ht
        have hall : ([3].all fun u => !Tryd.prog.wantsStandIn u) = true := by kernel_rfl
        exact (show Tryd.prog.wantsStandIn t = false by simpa using List.all_eq_true.1 hall t hm)⟩)
    (by kernel_rfl)
end Go.Proofs.YtmcmpgnkjjcocabDoor
