/- What readSpan of times answers, of any text; no statement of the seat is proved here. -/
import Derived.Test.YtademfjpeoneiaaDoorPaC
import Derived.Test.YtademfjpeoneiaaDoorUp
import Derived.Test.YtademfjpeoneiaaDoorSubG
import Derived.Test.YtademfjpeoneiaaDoorAwk3
namespace Go.Proofs.YtademfjpeoneiaaDoor
set_option linter.unusedVariables false
open Go.RowKit
set_option maxRecDepth 100000 in
set_option maxHeartbeats 2000000 in
theorem readSpan_of (s : ByteArray) (w : World) (hs : s.size ≤ 140737488355328) (u : UT7 w) : Calls Tryd.prog 7 #[.string s] w fun e w' => RdZ e ∧ Below w.heap.size w w' := by
  have U : Hid (UT7 w) := u
  have C1 : Hid _ := fun w => cutPre_of 45 s w (by unfold maxLen; omega)
  have k1 := aftB_size 45 s
  generalize aftB 45 s = t0 at *
  generalize preB 45 s = neg at *
  clear u
  go_enter Tryd.func7, Tryd.ntmps7
  go_wp2_with (go_at_call 14; refine (C1.out _).mono ?_; rintro e w2 ⟨rfl, rfl⟩)
  go_loopw [0, 5, 6] (fun sv sp nx wr => ∃ (t : ByteArray) (x : Int) (k : Nat), sv = .string t ∧ t.size ≤ s.size ∧ sp = .int .i64 x ∧ (-9223372036854775808 ≤ x ∧ x < 9223372036854775808) ∧ nx = .int .i64 k ∧ k ≤ 7 ∧ Below w2.heap.size w2 wr) (fun _ _ nx _ => 8 - (intOf nx).toNat)
  case atStart => exact ⟨t0, 0, 0, rfl, k1, rfl, by omega, rfl, by omega, Below.refl _ _⟩
  case round =>
    obtain ⟨t, x, k, rfl, ht, rfl, hx, rfl, hk, hB⟩ := hrel
    have B : Hid (Below w2.heap.size w2 wr) := hB
    have UR : Hid (UT7 wr) := U.out.next hB
    clear hB
    go_wp2_with fail
    refine (cutPart_of t _ (by unfold maxLen; omega)).mono ?_
    rintro e w3 ⟨⟨a, b, d, c, r, rfl, ha, hb, hc, hr, hl⟩, hb3⟩
    have B3 : Hid (Below w2.heap.size w2 w3) := B.out.trans (hb3.mono B.out.size)
    have U3 : Hid (UT7 w3) := UR.out.next hb3
    have L : Hid _ := hl
    clear hb3 hl B UR
    go_wp2_with fail
    refine (Tryd.strings_ToUpper_ascii c _ (by omega) L.out).mono ?_
    rintro e w4 ⟨rfl, hb4⟩
    obtain ⟨c4, f4, z4, B4'⟩ := bb1 hb4
    have B4 : Hid (Below w2.heap.size w2 w4) := B3.out.trans (B4'.mono B3.out.size)
    have U4 : Hid (UT7 w4) := U3.out.next B4'
    clear hb4 B4'
    generalize (⟨(Lib.toUpperA c.data.toList).toArray⟩ : ByteArray) = uc at *
    go_wp2_with fail
    refine (findUnit_of uc k _ U4.out hk).mono ?_
    rintro e w5 ⟨⟨i, p, rfl, hi, hp⟩, rfl⟩
    cases p
    · go_wp2
      go_returns
      exact ⟨⟨0, false, rfl, by omega, by omega⟩, B4.out⟩
    · have hki := hp rfl
      clear hp
      cases er : r.toList.isEmpty
      · cases d
        · obtain ⟨q0, q1, q2⟩ := U4.out i hi
          have bl := uL_bd i hi
          have n0 := U4.out.pos
          have i7 : (i : Int) < 7 := by omega
          obtain ⟨n, p, hn, hN⟩ := nanos_ex a b false c (uN i) (uL i) (uB i) ((k : Int) == 0) (by unfold maxLen; omega) (by unfold maxLen; omega) bl.1 bl.2
          have N : Hid _ := hN
          clear hN
          go_wp2_with fail
          refine wp_region_sub2 (by kernel_rfl) (by kernel_rfl) ?_
          intro cx
          repeat (first | go_big_quiet_skip | (go_big_quiet_want; go_big_quiet_op; first | go_big_quiet_on | (refine ⟨_, fun _ => rfl, ?_⟩; go_big_quiet_on) | go_big_quiet_call (first | (go_at_call 18; exact calls_sub (N.out _)))))
          refine wpQuiet_nil ?_
          rintro _ ⟨y, rfl⟩
          have B5 : Hid (Below w2.heap.size w2 y.w) := B4.out.trans (y.h.mono B4.out.size)
          clear cx
          cases p
          · go_wp2
            go_returns
            exact ⟨⟨0, false, rfl, by omega, by omega⟩, B5.out⟩
          · have W1 := wrap64_bdT (x + n)
            have T : Hid _ := fun w => trimPre_of 95 r w (by unfold maxLen; omega)
            have kt := aftB_size 95 r
            generalize aftB 95 r = r2 at *
            go_wp2_with (go_at_call 19; refine (T.out _).mono ?_; rintro e w6 ⟨rfl, h6⟩)
            · go_returns
              exact ⟨⟨0, false, rfl, by omega, by omega⟩, B5.out⟩
            · subst h6
              go_roundw
              case rel =>
                go_light
                exact ⟨r2, wrap64 (x + n), i + 1, rfl, by omega, rfl, W1, by go_num, by omega, B5.out⟩
              case measure => simp [intOf]; omega
        · go_wp2
          go_returns
          exact ⟨⟨0, false, rfl, by omega, by omega⟩, B4.out⟩
      · cases d
        · obtain ⟨q0, q1, q2⟩ := U4.out i hi
          have bl := uL_bd i hi
          have n0 := U4.out.pos
          have i7 : (i : Int) < 7 := by omega
          obtain ⟨n, p, hn, hN⟩ := nanos_ex a b false c (uN i) (uL i) (uB i) ((k : Int) == 0) (by unfold maxLen; omega) (by unfold maxLen; omega) bl.1 bl.2
          have N : Hid _ := hN
          clear hN
          go_wp2_with fail
          refine wp_region_sub2 (by kernel_rfl) (by kernel_rfl) ?_
          intro cx
          repeat (first | go_big_quiet_skip | (go_big_quiet_want; go_big_quiet_op; first | go_big_quiet_on | (refine ⟨_, fun _ => rfl, ?_⟩; go_big_quiet_on) | go_big_quiet_call (first | (go_at_call 18; exact calls_sub (N.out _)))))
          refine wpQuiet_nil ?_
          rintro _ ⟨y, rfl⟩
          have B5 : Hid (Below w2.heap.size w2 y.w) := B4.out.trans (y.h.mono B4.out.size)
          clear cx
          cases p
          · go_wp2
            go_returns
            exact ⟨⟨0, false, rfl, by omega, by omega⟩, B5.out⟩
          · have W1 := wrap64_bdT (x + n)
            cases neg
            · go_wp2
              all_goals
                go_returns
                go_light
                first
                | exact ⟨⟨0, false, rfl, by omega, by omega⟩, B5.out⟩
                | exact ⟨⟨_, true, rfl, W1.1, W1.2⟩, B5.out⟩
            · go_wp2
              all_goals
                go_returns
                go_light
                first
                | exact ⟨⟨0, false, rfl, by omega, by omega⟩, B5.out⟩
                | exact ⟨⟨_, true, rfl, (wrap64_bdT _).1, (wrap64_bdT _).2⟩, B5.out⟩
        · obtain ⟨q0, q1, q2⟩ := U4.out i hi
          have bl := uL_bd i hi
          have n0 := U4.out.pos
          have i7 : (i : Int) < 7 := by omega
          obtain ⟨n, p, hn, hN⟩ := nanos_ex a b true c (uN i) (uL i) (uB i) ((k : Int) == 0) (by unfold maxLen; omega) (by unfold maxLen; omega) bl.1 bl.2
          have N : Hid _ := hN
          clear hN
          go_wp2_with fail
          refine wp_region_sub2 (by kernel_rfl) (by kernel_rfl) ?_
          intro cx
          repeat (first | go_big_quiet_skip | (go_big_quiet_want; go_big_quiet_op; first | go_big_quiet_on | (refine ⟨_, fun _ => rfl, ?_⟩; go_big_quiet_on) | go_big_quiet_call (first | (go_at_call 18; exact calls_sub (N.out _)))))
          refine wpQuiet_nil ?_
          rintro _ ⟨y, rfl⟩
          have B5 : Hid (Below w2.heap.size w2 y.w) := B4.out.trans (y.h.mono B4.out.size)
          clear cx
          cases p
          · go_wp2
            go_returns
            exact ⟨⟨0, false, rfl, by omega, by omega⟩, B5.out⟩
          · have W1 := wrap64_bdT (x + n)
            cases neg
            · go_wp2
              all_goals
                go_returns
                go_light
                first
                | exact ⟨⟨0, false, rfl, by omega, by omega⟩, B5.out⟩
                | exact ⟨⟨_, true, rfl, W1.1, W1.2⟩, B5.out⟩
            · go_wp2
              all_goals
                go_returns
                go_light
                first
                | exact ⟨⟨0, false, rfl, by omega, by omega⟩, B5.out⟩
                | exact ⟨⟨_, true, rfl, (wrap64_bdT _).1, (wrap64_bdT _).2⟩, B5.out⟩
end Go.Proofs.YtademfjpeoneiaaDoor
