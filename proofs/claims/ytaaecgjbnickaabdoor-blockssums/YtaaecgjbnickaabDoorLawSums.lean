/- BlocksSums is proved: for every two lists of truth values and every number the statement's function returns true, and the arguments read as they did; no condition but the table that the card ties. -/
import Derived.Test.YtaaecgjbnickaabDoorBlkR
import Derived.Deep.RegionHeld3
import Derived.Deep.Light
import Derived.Deep.DeepCutAuto
import Derived.Deep.QuietTactic
import Derived.BigQuiet
import Derived.Test.YtaaecgjbnickaabDoorOpenB
import Derived.Test.YtaaecgjbnickaabDoorTie
import Derived.Test.YtaaecgjbnickaabDoorCards
import Derived.ChangeOld
import Derived.ChangeMaps5
import Derived.SevenTiedAt
import Derived.Stop.Joined
namespace Go.Proofs.YtaaecgjbnickaabDoor.LawSums
set_option linter.unusedVariables false
open Go.RowKit Go.Proofs.YtaaecgjbnickaabDoor Go.ChangeShapes Go.WideShapes Go.ChangeAt Go.Joins
theorem below_drewN (w : World) (n : Nat) : Below w.heap.size w (w.drewN n) := ⟨rfl, rfl, rfl, Nat.le_refl _, fun _ _ => rfl⟩
theorem eqI (k x : Int) (w : World) : (binOp .eql 30 (V k x ⟨#[]⟩) (V k x ⟨#[]⟩)).run Tryd.prog w = .ok (.bool true) w := by simp [go_sem]
set_option maxRecDepth 20000 in
set_option maxHeartbeats 8000000 in
theorem walk (ad ar : Option Addr) (n cap m capr : Nat) (f fr : Nat → Bool) (pv : Int) (w : World) (hpv : -9223372036854775808 ≤ pv ∧ pv < 9223372036854775808) (h0 : ad = none → n = 0 ∧ cap = 0) (hk : BoAt w ad n f) (hn : n * 1 ≤ 140737488351232) (h0r : ar = none → m = 0 ∧ capr = 0) (hkr : BoAt w ar m fr) (hm : m * 1 ≤ 140737488351232) (ht : Asc w) :
    Calls Tryd.prog 3 #[.slice ad n cap, .slice ar m capr, .int .i64 pv] w fun e w' => e = .returned (.bool true) ∧ Below w.heap.size w w' := by
  have HK : Hid (BoAt w ad n f) := hk
  have HKR : Hid (BoAt w ar m fr) := hkr
  have HT : Hid (Asc w) := ht
  have H0 : Hid (ad = none → n = 0 ∧ cap = 0) := h0
  have H0R : Hid (ar = none → m = 0 ∧ capr = 0) := h0r
  have HN : Hid (n * 1 ≤ 140737488351232) := hn
  clear hk hkr ht h0 h0r hn hm
  obtain ⟨P, EP, P0, P1⟩ := i16_ex pv
  have t0 : tN false = 0 := rfl
  have t1 : tN true = 1 := rfl
  go_enter Tryd.func3, Tryd.ntmps3
  go_wp2_with fail
  refine (Start_7 _ HT.out).mono ?_
  rintro e w1 ⟨g1, c1, rfl, hg1, hr1, hb1⟩
  have HB1 : Hid (Below w.heap.size w w1) := hb1
  have HR1 : Hid (Row3 w1 g1 10 (vlL ksB [0, 0, 0, 0, 0, 0, 0, 0, 0, 0])) := str_vl hr1
  clear hr1 hb1
  go_wp2_with fail
  refine (bit_of _ _).mono ?_
  rintro e w2 ⟨rfl, hb⟩
  have C2 : Hid (Below w1.heap.size w1 w2) := hb
  clear hb
  go_wp2_with fail
  refine (bit_of _ _).mono ?_
  rintro e w3 ⟨rfl, hb⟩
  have C3 : Hid (Below w1.heap.size w1 w3) := below_step C2.out hb
  clear hb
  go_wp2_with fail
  refine (bit_of _ _).mono ?_
  rintro e w4 ⟨rfl, hb⟩
  have C4 : Hid (Below w1.heap.size w1 w4) := below_step C3.out hb
  clear hb
  go_wp2_with fail
  refine (bit_of _ _).mono ?_
  rintro e w5 ⟨rfl, hb⟩
  have C5 : Hid (Below w1.heap.size w1 w5) := below_step C4.out hb
  clear hb
  go_wp2_with fail
  refine (whole_of _ _ (by omega)).mono ?_
  rintro e w6 ⟨rfl, hb⟩
  have C6 : Hid (Below w1.heap.size w1 w6) := below_step C5.out hb
  clear hb
  go_wp2_with fail
  have UU := inp5 w6 ksB 0 0 0 1 P 1 1 1 1 3 0 0 0 1 (P % 18446744073709551616) rfl rfl rfl rfl rfl rfl rfl rfl rfl rfl
  refine (stepB 7 _ ⟨g1, 0, none⟩ _ _ _ 0 0 0 1 P 0 0 0 0 0 0 0 0 0 0 _ (stok7 _) ((HR1.out.below C6.out).at.below (below_alloc' _ _)) UU (okB (.inl rfl) (.inl rfl) (.inl rfl) (.inl rfl) (by omega) (.inl rfl) (.inl rfl) (by omega) (.inl rfl) (.inl rfl)) (.inl rfl) (.inl rfl) (.inl rfl) (.inr rfl) ⟨P0, P1⟩).mono ?_
  rintro e w7 ⟨g7, rfl, hg7, hr7, hb7⟩
  rw [clN_in (by omega), sm_first] at hr7
  have C7 : Hid (Below w1.heap.size w1 w7) := below_step (C6.out.alloc C6.out.size _) hb7
  have R7 : Hid (Row3 w7 g7 10 (vlL ksB [0, 0, 0, 1, P, tN (decide (P ≤ P)), tN (decide (P ≤ 0)), P, tN false, tN false])) := hr7
  have W7 : Hid (Below w.heap.size w w7) := HB1.out.trans (C7.out.mono HB1.out.size)
  have KU7 : Hid (BoAt w7 ad n f) := HK.out.below W7.out
  have KD7 : Hid (BoAt w7 ar m fr) := HKR.out.below W7.out
  clear hr7 hb7 UU C2 C3 C4 C5 C6 C7 HR1
  have sn := fun g => sl_nil ⟨g, 0, none⟩ 10 10
  go_upto_region 6 with fail
  go_cut [33, 34] (fun s33 s34 wx => s33 = .int .i64 ((min n m : Nat) : Int) ∧ s34 = .int .i64 0 ∧ wx = w7)
  case first =>
    by_cases hnm : n ≤ m
    · have hh : (n : Int) ≤ m := by omega
      have E : Hid (min n m = n) := Nat.min_eq_left hnm
      clear hnm
      go_wp2
      all_goals
        go_meet
        case rel => exact ⟨congrArg (Value.int .i64) (by have := E.out; omega), rfl, rfl⟩
    · have hh : (m : Int) < n := by omega
      have E : Hid (min n m = m) := Nat.min_eq_right (by omega)
      clear hnm
      go_wp2
      all_goals
        go_meet
        case rel => exact ⟨congrArg (Value.int .i64) (by have := E.out; omega), rfl, rfl⟩
  case rest =>
    obtain ⟨rfl, rfl, hw⟩ := hcut
    have hw' := hw.symm
    clear hw
    subst hw'
    obtain ⟨M, hM, m1, m2⟩ : ∃ M, min n m = M ∧ M ≤ n ∧ M ≤ m := ⟨_, rfl, Nat.min_le_left _ _, Nat.min_le_right _ _⟩
    rw [hM]
    clear hM
    go_wp2
    go_loopw [7, 8, 9, 10, 34] (fun c nv av bv i wr => ∃ (k : Nat) (N : Int) (a b : Bool) (g cc : Nat) (x0 x1 x2 x3 : Int), k ≤ M ∧ i = .int .i64 k ∧ nv = .int .i64 N ∧ av = .bool a ∧ bv = .bool b ∧ c = .slice (some ⟨g, 0, none⟩) 10 cc ∧ Row3 wr g 10 (vlL ksB [x0, x1, x2, x3, P, tN (decide (P ≤ N)), tN (decide (N ≤ 0)), N, tN a, tN b]) ∧ okL ksB [x0, x1, x2, x3, P, tN (decide (P ≤ N)), tN (decide (N ≤ 0)), N, tN a, tN b] ∧ -32768 ≤ N ∧ N ≤ 32767 ∧ Below w7.heap.size w7 wr) (fun _ _ _ _ i _ => M - (intOf i).toNat)
    case atStart => exact ⟨0, P, false, false, g7, 10, 0, 0, 0, 1, Nat.zero_le _, rfl, rfl, rfl, rfl, rfl, R7.out, okB (.inl rfl) (.inl rfl) (.inl rfl) (.inr rfl) ⟨P0, P1⟩ (tN_01 _) (tN_01 _) ⟨P0, P1⟩ (tN_01 _) (tN_01 _), P0, P1, Below.refl _ _⟩
    case round =>
      obtain ⟨k, N, a, b, g, cc, x0, x1, x2, x3, hk, rfl, rfl, rfl, rfl, rfl, hr, ho, n1, n2, hb⟩ := hrel
      have HB : Hid (Below w7.heap.size w7 wr) := hb
      have HR : Hid (Row3 wr g 10 (vlL ksB [x0, x1, x2, x3, P, tN (decide (P ≤ N)), tN (decide (N ≤ 0)), N, tN a, tN b])) := hr
      have HO : Hid (okL ksB [x0, x1, x2, x3, P, tN (decide (P ≤ N)), tN (decide (N ≤ 0)), N, tN a, tN b]) := ho
      have KU : Hid (BoAt wr ad n f) := KU7.out.below hb
      have KD : Hid (BoAt wr ar m fr) := KD7.out.below hb
      have BW : Hid (Below w.heap.size w wr) := W7.out.trans (hb.mono W7.out.size)
      by_cases hlt : k < M
      · obtain ⟨au, rfl⟩ : ∃ b, ad = some b := by
          cases ad with
          | none => have := (H0.out rfl).1; omega
          | some b => exact ⟨b, rfl⟩
        obtain ⟨av, rfl⟩ : ∃ b, ar = some b := by
          cases ar with
          | none => have := (H0R.out rfl).1; omega
          | some b => exact ⟨b, rfl⟩
        have zr := hb.size
        have HLT : Hid (k < M) := hlt
        clear hr ho hb
        have hkn : k < n := by omega
        have hkm : k < m := by omega
        have kb : (k : Int) ≤ 140737488351232 := by have := HN.out; omega
        have hkn' : (k : Int) < n := by omega
        have hkm' : (k : Int) < m := by omega
        have hlt' : (k : Int) < M := by omega
        have d0 := KU.out au rfl k hkn
        have d1 := KD.out av rfl k hkm
        have BB : Hid (Below wr.heap.size wr wr) := Below.refl _ _
        go_wp2_with fail
        go_region_held3 (fun w' => w'.cell? (au.add k) = some (.bool (f k)) ∧ w'.cell? (av.add k) = some (.bool (fr k))) (go_keep)
          (first | (go_at_call 9; refine (bit_of _ _).mono ?_; rintro e w3 ⟨rfl, hb3⟩; have BB : Hid (Below wr.heap.size wr w3) := below_step (by first | exact BB.out | exact BB.out.drew) hb3; have e0 := KU.out.below BB.out au rfl k hkn; have e1 := KD.out.below BB.out av rfl k hkm; clear hb3) | (go_at_call 10; refine (whole_of _ _ (by omega)).mono ?_; rintro e w4 ⟨rfl, hb4⟩; have BB : Hid (Below wr.heap.size wr w4) := below_step (by first | exact BB.out | exact BB.out.drew) hb4; have e0 := KU.out.below BB.out au rfl k hkn; have e1 := KD.out.below BB.out av rfl k hkm; clear hb4) | (go_at_call 7; refine (stepB 7 _ ⟨g, 0, none⟩ _ _ _ (tN (f k)) (tN (fr k)) 0 0 P x0 x1 x2 x3 P (tN (decide (P ≤ N))) (tN (decide (N ≤ 0))) N (tN a) (tN b) _ (stok7 _) ((HR.out.below BB.out).at.below (below_alloc' _ _)) (inp5 _ ksB (tN (f k)) (tN (fr k)) 0 0 P 1 1 1 1 3 (tN (f k)) (tN (fr k)) 0 0 (P % 18446744073709551616) rfl rfl rfl rfl rfl (tN_mod _) (tN_mod _) rfl rfl rfl) HO.out (tN_01 _) (tN_01 _) (.inl rfl) (.inl rfl) ⟨P0, P1⟩).mono ?_; rintro e w5 ⟨g5, rfl, hg5, hr5, hb5⟩; have BB : Hid (Below wr.heap.size wr w5) := below_step (BB.out.alloc BB.out.size _) hb5; have e0 := KU.out.below BB.out au rfl k hkn; have e1 := KD.out.below BB.out av rfl k hkm; have R5 : Hid (Row3 w5 g5 10 (vlL ksB (nxt 7 (clN 0) [tN (f k), tN (fr k), 0, 0, P, tN (decide (P ≤ N)), tN (decide (N ≤ 0)), N, tN a, tN b]))) := hr5; clear hb5 hr5))
        have r5 := R5.out
        rw [clN_in (by omega), sm_next, smQ_is] at r5
        have cr := sm_rg ⟨n1, n2⟩ (f k) (fr k) a b
        rw [smQ_is] at cr
        have B5 : Hid (Below wr.heap.size wr w5) := BB.out
        clear BB R5 d0 d1
        generalize f k = u at *
        generalize fr k = d at *
        go_upto_region 10 with fail
        go_cut [12, 13] (fun s12 s13 wx => s12 = .bool (u && !a) ∧ s13 = .bool (d && !b) ∧ Below w5.heap.size w5 wx)
        case first =>
          cases u <;> cases d <;> cases a <;> cases b
          all_goals
            go_quiet (fail)
            go_wp2_with fail
            go_meet
            case rel => exact ⟨rfl, rfl, below_drewN _ _⟩
        case rest =>
          obtain ⟨rfl, rfl, hb6⟩ := hcut
          have B6 : Hid (Below wr.heap.size wr wc) := below_step B5.out hb6
          have r6 := r5.below hb6
          obtain ⟨B, hB⟩ : ∃ B, smQ N (u && !a) (d && !b) = B := ⟨_, rfl⟩
          rw [hB] at r6 cr
          have HBe : Hid (smQ N (u && !a) (d && !b) = B) := hB
          obtain ⟨cr1, cr2⟩ := cr
          have R6 : Hid (Row3 wc g5 10 (vlL ksB [tN u, tN d, 0, 0, P, tN (decide (P ≤ B)), tN (decide (B ≤ 0)), B, tN u, tN d])) := r6
          have OK : Hid (okL ksB [tN u, tN d, 0, 0, P, tN (decide (P ≤ B)), tN (decide (B ≤ 0)), B, tN u, tN d]) := okB (tN_01 _) (tN_01 _) (.inl rfl) (.inl rfl) ⟨P0, P1⟩ (tN_01 _) (tN_01 _) ⟨cr1, cr2⟩ (tN_01 _) (tN_01 _)
          obtain ⟨v21, v22, v23⟩ := r6.val 7 21 (by decide) rfl
          have v21' : wc.cell? ⟨g5, 21, none⟩ = some (.int .u8 3) := v21
          have v22' : wc.cell? ⟨g5, 22, none⟩ = some (.int .u64 (B % 18446744073709551616)) := v22
          have v23' : wc.cell? ⟨g5, 23, none⟩ = some (.string ⟨#[]⟩) := v23
          have z5 : g5 < wc.heap.size := block_lt_of_cell v21
          have y0 : wc.cell? (au.add k) = some (.bool u) := (hb6.cell (block_lt_of_cell e0)).trans e0
          have y1 : wc.cell? (av.add k) = some (.bool d) := (hb6.cell (block_lt_of_cell e1)).trans e1
          have nv := neqI
          clear r5 r6 hb6 hB e0 e1 v21 v22 v23
          generalize (u && !a) = x at *
          generalize (d && !b) = y' at *
          cases x
          · cases y'
            · have EB : B = N := by rw [← HBe.out]; unfold smQ; simp
              subst EB
              go_wp2_with fail
              go_quiet (fail)
              have BQ : Hid (Below wc.heap.size wc (wc.drewN nq)) := below_drewN _ _
              generalize wc.drewN nq = W at BQ ⊢
              have w21 := (BQ.out.cell (p := ⟨g5, 21, none⟩) z5).trans v21'
              have w22 := (BQ.out.cell (p := ⟨g5, 22, none⟩) z5).trans v22'
              have w23 := (BQ.out.cell (p := ⟨g5, 23, none⟩) z5).trans v23'
              have zW : g5 < W.heap.size := block_lt_of_cell w21
              go_wp2_with fail
              refine wp_region_sub2 (by kernel_rfl) (by kernel_rfl) ?_
              intro cx
              repeat (first | go_big_quiet_skip | (go_big_quiet_want; go_big_quiet_op; first | go_big_quiet_on | (refine ⟨_, fun _ => rfl, ?_⟩; go_big_quiet_on) | go_big_quiet_call (first | (go_at_call 9; exact calls_sub (bit_of _ _)) | (go_at_call 10; exact calls_sub (whole_of _ _ (by omega))))))
              refine wpQuiet_nil ?_
              rintro _ ⟨y, rfl⟩
              clear cx
              have BY : Hid (Below wc.heap.size wc y.w) := BQ.out.trans (y.h.mono BQ.out.size)
              go_wp2
              exact ⟨⟨k + 1, _, _, _, g5, 10, tN _, tN _, 0, 0, by have := HLT.out; omega, by go_num, rfl, rfl, rfl, rfl, R6.out.below BY.out, OK.out, by omega, by omega, (HB.out.trans (B6.out.mono HB.out.size)).trans (BY.out.mono (Nat.le_trans HB.out.size B6.out.size))⟩, by have := HLT.out; simp [intOf]; omega⟩
            · by_cases c3 : -32768 < N
              · have EB : B = N - 1 := by rw [← HBe.out]; unfold smQ; simp [c3]
                subst EB
                go_wp2_with fail
                go_quiet (fail)
                have BQ : Hid (Below wc.heap.size wc (wc.drewN nq)) := below_drewN _ _
                generalize wc.drewN nq = W at BQ ⊢
                have w21 := (BQ.out.cell (p := ⟨g5, 21, none⟩) z5).trans v21'
                have w22 := (BQ.out.cell (p := ⟨g5, 22, none⟩) z5).trans v22'
                have w23 := (BQ.out.cell (p := ⟨g5, 23, none⟩) z5).trans v23'
                have zW : g5 < W.heap.size := block_lt_of_cell w21
                go_wp2_with fail
                refine wp_region_sub2 (by kernel_rfl) (by kernel_rfl) ?_
                intro cx
                repeat (first | go_big_quiet_skip | (go_big_quiet_want; go_big_quiet_op; first | go_big_quiet_on | (refine ⟨_, fun _ => rfl, ?_⟩; go_big_quiet_on) | go_big_quiet_call (first | (go_at_call 9; exact calls_sub (bit_of _ _)) | (go_at_call 10; exact calls_sub (whole_of _ _ (by omega))))))
                refine wpQuiet_nil ?_
                rintro _ ⟨y, rfl⟩
                clear cx
                have BY : Hid (Below wc.heap.size wc y.w) := BQ.out.trans (y.h.mono BQ.out.size)
                go_wp2
                exact ⟨⟨k + 1, _, _, _, g5, 10, tN _, tN _, 0, 0, by have := HLT.out; omega, by go_num, rfl, rfl, rfl, rfl, R6.out.below BY.out, OK.out, by omega, by omega, (HB.out.trans (B6.out.mono HB.out.size)).trans (BY.out.mono (Nat.le_trans HB.out.size B6.out.size))⟩, by have := HLT.out; simp [intOf]; omega⟩
              · have EB : B = N := by rw [← HBe.out]; unfold smQ; simp [c3]
                subst EB
                go_wp2_with fail
                go_quiet (fail)
                have BQ : Hid (Below wc.heap.size wc (wc.drewN nq)) := below_drewN _ _
                generalize wc.drewN nq = W at BQ ⊢
                have w21 := (BQ.out.cell (p := ⟨g5, 21, none⟩) z5).trans v21'
                have w22 := (BQ.out.cell (p := ⟨g5, 22, none⟩) z5).trans v22'
                have w23 := (BQ.out.cell (p := ⟨g5, 23, none⟩) z5).trans v23'
                have zW : g5 < W.heap.size := block_lt_of_cell w21
                go_wp2_with fail
                refine wp_region_sub2 (by kernel_rfl) (by kernel_rfl) ?_
                intro cx
                repeat (first | go_big_quiet_skip | (go_big_quiet_want; go_big_quiet_op; first | go_big_quiet_on | (refine ⟨_, fun _ => rfl, ?_⟩; go_big_quiet_on) | go_big_quiet_call (first | (go_at_call 9; exact calls_sub (bit_of _ _)) | (go_at_call 10; exact calls_sub (whole_of _ _ (by omega))))))
                refine wpQuiet_nil ?_
                rintro _ ⟨y, rfl⟩
                clear cx
                have BY : Hid (Below wc.heap.size wc y.w) := BQ.out.trans (y.h.mono BQ.out.size)
                go_wp2
                exact ⟨⟨k + 1, _, _, _, g5, 10, tN _, tN _, 0, 0, by have := HLT.out; omega, by go_num, rfl, rfl, rfl, rfl, R6.out.below BY.out, OK.out, by omega, by omega, (HB.out.trans (B6.out.mono HB.out.size)).trans (BY.out.mono (Nat.le_trans HB.out.size B6.out.size))⟩, by have := HLT.out; simp [intOf]; omega⟩
          · cases y'
            · by_cases c3 : N < 32767
              · have EB : B = N + 1 := by rw [← HBe.out]; unfold smQ; simp [c3]
                subst EB
                go_wp2_with fail
                go_quiet (fail)
                have BQ : Hid (Below wc.heap.size wc (wc.drewN nq)) := below_drewN _ _
                generalize wc.drewN nq = W at BQ ⊢
                have w21 := (BQ.out.cell (p := ⟨g5, 21, none⟩) z5).trans v21'
                have w22 := (BQ.out.cell (p := ⟨g5, 22, none⟩) z5).trans v22'
                have w23 := (BQ.out.cell (p := ⟨g5, 23, none⟩) z5).trans v23'
                have zW : g5 < W.heap.size := block_lt_of_cell w21
                go_wp2_with fail
                refine wp_region_sub2 (by kernel_rfl) (by kernel_rfl) ?_
                intro cx
                repeat (first | go_big_quiet_skip | (go_big_quiet_want; go_big_quiet_op; first | go_big_quiet_on | (refine ⟨_, fun _ => rfl, ?_⟩; go_big_quiet_on) | go_big_quiet_call (first | (go_at_call 9; exact calls_sub (bit_of _ _)) | (go_at_call 10; exact calls_sub (whole_of _ _ (by omega))))))
                refine wpQuiet_nil ?_
                rintro _ ⟨y, rfl⟩
                clear cx
                have BY : Hid (Below wc.heap.size wc y.w) := BQ.out.trans (y.h.mono BQ.out.size)
                go_wp2
                exact ⟨⟨k + 1, _, _, _, g5, 10, tN _, tN _, 0, 0, by have := HLT.out; omega, by go_num, rfl, rfl, rfl, rfl, R6.out.below BY.out, OK.out, by omega, by omega, (HB.out.trans (B6.out.mono HB.out.size)).trans (BY.out.mono (Nat.le_trans HB.out.size B6.out.size))⟩, by have := HLT.out; simp [intOf]; omega⟩
              · have EB : B = N := by rw [← HBe.out]; unfold smQ; simp [c3]
                subst EB
                go_wp2_with fail
                go_quiet (fail)
                have BQ : Hid (Below wc.heap.size wc (wc.drewN nq)) := below_drewN _ _
                generalize wc.drewN nq = W at BQ ⊢
                have w21 := (BQ.out.cell (p := ⟨g5, 21, none⟩) z5).trans v21'
                have w22 := (BQ.out.cell (p := ⟨g5, 22, none⟩) z5).trans v22'
                have w23 := (BQ.out.cell (p := ⟨g5, 23, none⟩) z5).trans v23'
                have zW : g5 < W.heap.size := block_lt_of_cell w21
                go_wp2_with fail
                refine wp_region_sub2 (by kernel_rfl) (by kernel_rfl) ?_
                intro cx
                repeat (first | go_big_quiet_skip | (go_big_quiet_want; go_big_quiet_op; first | go_big_quiet_on | (refine ⟨_, fun _ => rfl, ?_⟩; go_big_quiet_on) | go_big_quiet_call (first | (go_at_call 9; exact calls_sub (bit_of _ _)) | (go_at_call 10; exact calls_sub (whole_of _ _ (by omega))))))
                refine wpQuiet_nil ?_
                rintro _ ⟨y, rfl⟩
                clear cx
                have BY : Hid (Below wc.heap.size wc y.w) := BQ.out.trans (y.h.mono BQ.out.size)
                go_wp2
                exact ⟨⟨k + 1, _, _, _, g5, 10, tN _, tN _, 0, 0, by have := HLT.out; omega, by go_num, rfl, rfl, rfl, rfl, R6.out.below BY.out, OK.out, by omega, by omega, (HB.out.trans (B6.out.mono HB.out.size)).trans (BY.out.mono (Nat.le_trans HB.out.size B6.out.size))⟩, by have := HLT.out; simp [intOf]; omega⟩
            · have EB : B = N := by rw [← HBe.out]; unfold smQ; simp
              subst EB
              go_wp2_with fail
              go_quiet (fail)
              have BQ : Hid (Below wc.heap.size wc (wc.drewN nq)) := below_drewN _ _
              generalize wc.drewN nq = W at BQ ⊢
              have w21 := (BQ.out.cell (p := ⟨g5, 21, none⟩) z5).trans v21'
              have w22 := (BQ.out.cell (p := ⟨g5, 22, none⟩) z5).trans v22'
              have w23 := (BQ.out.cell (p := ⟨g5, 23, none⟩) z5).trans v23'
              have zW : g5 < W.heap.size := block_lt_of_cell w21
              go_wp2_with fail
              refine wp_region_sub2 (by kernel_rfl) (by kernel_rfl) ?_
              intro cx
              repeat (first | go_big_quiet_skip | (go_big_quiet_want; go_big_quiet_op; first | go_big_quiet_on | (refine ⟨_, fun _ => rfl, ?_⟩; go_big_quiet_on) | go_big_quiet_call (first | (go_at_call 9; exact calls_sub (bit_of _ _)) | (go_at_call 10; exact calls_sub (whole_of _ _ (by omega))))))
              refine wpQuiet_nil ?_
              rintro _ ⟨y, rfl⟩
              clear cx
              have BY : Hid (Below wc.heap.size wc y.w) := BQ.out.trans (y.h.mono BQ.out.size)
              go_wp2
              exact ⟨⟨k + 1, _, _, _, g5, 10, tN _, tN _, 0, 0, by have := HLT.out; omega, by go_num, rfl, rfl, rfl, rfl, R6.out.below BY.out, OK.out, by omega, by omega, (HB.out.trans (B6.out.mono HB.out.size)).trans (BY.out.mono (Nat.le_trans HB.out.size B6.out.size))⟩, by have := HLT.out; simp [intOf]; omega⟩
      · have ek : k = M := by omega
        obtain ⟨v15, v16, v17⟩ := hr.val 5 15 (by decide) rfl
        obtain ⟨v18, v19, v20⟩ := hr.val 6 18 (by decide) rfl
        have v15' : wr.cell? ⟨g, 15, none⟩ = some (.int .u8 1) := v15
        have v16' : wr.cell? ⟨g, 16, none⟩ = some (.int .u64 (tN (decide (P ≤ N)))) := by rw [v16]; show some (Value.int _ (tN _ % _)) = _; rw [tN_mod]
        have v17' : wr.cell? ⟨g, 17, none⟩ = some (.string ⟨#[]⟩) := v17
        have v18' : wr.cell? ⟨g, 18, none⟩ = some (.int .u8 1) := v18
        have v19' : wr.cell? ⟨g, 19, none⟩ = some (.int .u64 (tN (decide (N ≤ 0)))) := by rw [v19]; show some (Value.int _ (tN _ % _)) = _; rw [tN_mod]
        have v20' : wr.cell? ⟨g, 20, none⟩ = some (.string ⟨#[]⟩) := v20
        have zg : g < wr.heap.size := block_lt_of_cell v15
        have ev := eqI
        clear hr ho hb v15 v16 v17 v18 v19 v20
        go_wp2_with fail
        refine wp_region_sub2 (by kernel_rfl) (by kernel_rfl) ?_
        intro cx
        repeat (first | go_big_quiet_skip | (go_big_quiet_want; go_big_quiet_op; first | go_big_quiet_on | (refine ⟨_, fun _ => rfl, ?_⟩; go_big_quiet_on) | go_big_quiet_call (first | (go_at_call 9; exact calls_sub (bit_of _ _)) | (go_at_call 10; exact calls_sub (whole_of _ _ (by omega))))))
        refine wpQuiet_nil ?_
        rintro _ ⟨y, rfl⟩
        clear cx
        have BY : Hid (Below wr.heap.size wr y.w) := y.h
        go_wp2
        go_ret
        exact ⟨rfl, BW.out.trans (BY.out.mono BW.out.size)⟩

theorem own : ownKnob Tryd.prog.godebug = none := by kernel_rfl
theorem laidOut : laidOutB Tryd.prog = true := by kernel_rfl
set_option maxRecDepth 100000 in
theorem lifted (os : Os) (started : os.Started) (H : Type) (enc : TypeId × Value → H) :
    ReturnsInHanded {} Tryd.checked os 3 .any (fun w args => (Rows.blocksSumsSpec.pre enc Tryd.prog Tryd.f3 [] false w args ∧ laidMetH Tryd.prog Rows.blocksSumsRow.laid w) ∧ sizedMet enc Tryd.prog Tryd.f3 (OpenSpec.ofChange Rows.blocksSumsSpec) false w args)
      (Rows.blocksSumsSpec.post enc Tryd.prog Tryd.f3 false true false false) := by
  refine returnsInHanded_of_change_and (C := Tryd.checked) (X := fun w _ => laidMetH Tryd.prog Rows.blocksSumsRow.laid w) (fun _ _ _ hh h => h.of_heap hh) own started (by kernel_rfl) Tryd.func3
    (ChangeSpec.witness_shaped (enc := enc) (C := Tryd.checked) (os := os) (X := fun w _ => laidMetH Tryd.prog Rows.blocksSumsRow.laid w) false (World.laidAll Tryd.prog os Rows.blocksSumsRow.laid) #[.slice none 0 0, .slice none 0 0, .int .i64 0] 8 (World.laidAll_os _ _ _)
      (World.shaped_of_ZipB (by kernel_rfl) (by kernel_rfl)) (by kernel_rfl) (by kernel_rfl) (by kernel_rfl)
      (by rw [MakeChecks.laidMetH_plain _ _ _ (by kernel_rfl)]; exact laidMet_laidAll _ (by kernel_rfl) (by kernel_rfl))) ?_
  intro W base args ds gs before hval0 hW _ hsz0 hL _
  have hval : ∀ (j : Nat) t v, Tryd.f3.params[j]? = some t → args[j]? = some v → Value.okWide Tryd.prog W .any base t v := hval0
  have hW' := hW
  obtain ⟨p, q, hA0, hV, rfl, hfz, hnd⟩ := hW
  have hA : DataW.TrodAll enc Tryd.prog W 0 (fun _ => true) true Tryd.f3.params.toList args.toList ds p := hA0
  have hsz : (DataW.weightsEach Tryd.prog (Tryd.f3.params.toList ++ Rows.blocksSumsSpec.plain.varTypes Tryd.prog) (ds ++ gs)).all (· ≤ reachBytes) = true := hsz0
  rw [Tryd.params3] at hA hval hsz
  obtain ⟨v0, vs0, d0, ds0, p0, q0, hargs, rfl, rfl, h0, r0⟩ := trodAll_cons hA
  obtain ⟨v1, vs1, d1, ds1, p1, q1, rfl, rfl, rfl, h1, r1⟩ := trodAll_cons r0
  obtain ⟨v2, vs2, d2, ds2, p2, q2, rfl, rfl, rfl, h2, r2⟩ := trodAll_cons r1
  obtain ⟨rfl, rfl, rfl⟩ := trodAll_nil r2
  obtain rfl : args = #[v0, v1, v2] := by cases args; simp_all
  obtain ⟨rfl, rfl⟩ := trodVars_none hV
  have k0 := h0
  have lt0 : ∀ x ∈ p0, x.block < W.heap.size := by obtain ⟨m, hm⟩ := k0; exact DataW.trod_lt m _ _ _ hm
  obtain ⟨ad, n, cap, f, rfl, zad, tf, sn⟩ := open_bools (hval 0 22 v0 rfl rfl) h0
  have ln : n * 1 ≤ 140737488351232 := by
    rcases sn with rfl | ⟨el, sp, e, hl⟩
    · omega
    · have := sized_slice hsz (j := 0) (t := 22) (e := 4) rfl (by rw [e]; rfl) Tryd.underlying22
      rw [show Tryd.prog.bytesOf 4 = 1 by kernel_rfl, hl] at this
      simp only [reachBytes] at this
      omega
  have k1 := h1
  have lt1 : ∀ x ∈ p1, x.block < W.heap.size := by obtain ⟨m, hm⟩ := k1; exact DataW.trod_lt m _ _ _ hm
  obtain ⟨ar, m, capr, fr, rfl, zar, tfr, sm⟩ := open_bools (hval 1 22 v1 rfl rfl) h1
  have lm : m * 1 ≤ 140737488351232 := by
    rcases sm with rfl | ⟨el, sp, e, hl⟩
    · omega
    · have := sized_slice hsz (j := 1) (t := 22) (e := 4) rfl (by rw [e]; rfl) Tryd.underlying22
      rw [show Tryd.prog.bytesOf 4 = 1 by kernel_rfl, hl] at this
      simp only [reachBytes] at this
      omega
  obtain ⟨pv, rfl, rfl, rfl, wpv⟩ := open_int Tryd.underlying3 (hval 2 3 v2 rfl rfl) h2
  have bpv := bounds_i64 wpv
  have hT := asc_of hL
  clear hA0 hval0 hL
  refine (walk ad ar n cap m capr f fr pv W (by omega) zad tf ln zar tfr lm hT).mono fun e W' ⟨he, bel⟩ => ?_
  subst he
  exact ⟨_, rfl, _, _, _, [], _, [], hW', trodAll_mk1 (shut_bool Tryd.underlying4 _), (trodAll_cons_mk (Below.trod laidOut (by kernel_rfl) (of_decide_eq_true (by kernel_rfl)) k0 bel lt0) (trodAll_cons_mk (Below.trod laidOut (by kernel_rfl) (of_decide_eq_true (by kernel_rfl)) k1 bel lt1) (trodAll_cons_mk (shut_int Tryd.underlying3 wpv) trodAll_mk0))), rfl, bel.frame _, fun h => by cases h⟩
theorem row_holds : Rows.BlocksSumsSaid :=
  OpenClaim.holds_of_wide 3 Tryd.f3 rfl rfl rfl rfl rfl rfl rfl ⟨rfl, rfl, rfl, rfl, rfl⟩ rfl rfl rfl rfl rfl (by kernel_rfl) Tryd.func3 (by kernel_rfl)
    (of_decide_eq_true (by kernel_rfl)) (by unfold Func.isWrapper; first | (rw [if_pos (by decide +kernel)]; kernel_rfl) | (rw [if_neg (by decide +kernel)]; exact ⟨rfl, rfl⟩))
    (fun os started H enc _ => lifted os started H enc)
end Go.Proofs.YtaaecgjbnickaabDoor.LawSums
namespace Go.Proofs.YtaaecgjbnickaabDoor
/-- THE STATEMENT, ITS TABLES TIED TO THE TEXTS. -/
theorem blocksSums_proved : Rows.BlocksSumsCardSaid :=
  Claim7.holds_tied_plain_at .later [] [.listed, .data] true (true, "2bc1beed4253d2ff1f43974bf2eafbe6f11bb5962f2e96de7f0810dc18eb0f4b") false
    LawSums.row_holds (fun _ h => by cases h) (by kernel_rfl) (fun _ h => by cases h) blocksSums_row_tie rfl ⟨rfl, rfl⟩ (by kernel_rfl) rfl
    (fun f fn hf hfn => by
      obtain rfl : f = 3 := Option.some.inj ((show Tryd.prog.funcNamed "relay/relaylaw10.BlocksSums" = some 3 by kernel_rfl).symm.trans hf) |>.symm
      obtain rfl : fn = Tryd.f3 := (Option.some.inj (Tryd.func3.symm.trans hfn)).symm
      exact ⟨by kernel_rfl, fun j t ht => by
        rw [Tryd.params3] at ht
        have hm : t ∈ [22, 22, 3] := by simpa using Array.mem_of_getElem? ht
        have hall : ([22, 22, 3].all fun u => !Tryd.prog.wantsStandIn u) = true := by kernel_rfl
        exact (show Tryd.prog.wantsStandIn t = false by simpa using List.all_eq_true.1 hall t hm)⟩)
    (by kernel_rfl)
end Go.Proofs.YtaaecgjbnickaabDoor
