/- What the document's clock answers of every text; no statement of the seat is proved here. -/
import Derived.Test.YtpdnlojennhmpaaDoorPqF
import Derived.Test.YtpdnlojennhmpaaDoorPqG
namespace Go.Proofs.YtpdnlojennhmpaaDoor
set_option linter.unusedVariables false
open Go.RowKit
set_option maxRecDepth 100000 in
set_option maxHeartbeats 4000000 in
theorem clockR_exact (s : ByteArray) (hs : s.size ≤ 140737488355328) : ∃ z : Int, (ckOk s.data.toList = true → z = ckN s.data.toList) ∧ (0 ≤ z ∧ z ≤ 400000000000000) ∧ ∀ w, Calls Tryd.prog 13 #[.string s] w fun e w' => e = .returned (.tuple #[.int .i64 z, .bool (ckOk s.data.toList)]) ∧ Below w.heap.size w w' := by
  have hml : s.size ≤ maxLen := by unfold maxLen; omega
  obtain ⟨h, hh, hb, hY⟩ := fixedR_of s 0 2 hs (by omega) (by omega)
  obtain ⟨m, hm, mb, hM⟩ := fixedR_of s 3 2 hs (by omega) (by omega)
  obtain ⟨x, hx, xb, hD⟩ := fixedR_of s 6 2 hs (by omega) (by omega)
  have Y : Hid (∀ w, Calls Tryd.prog 36 #[.string s, .int .i64 0, .int .i64 2] w fun e w' => e = .returned (.tuple #[.int .i64 h, .bool (fxP s.data.toList 0 2)]) ∧ w' = w) := hY
  have M : Hid (∀ w, Calls Tryd.prog 36 #[.string s, .int .i64 3, .int .i64 2] w fun e w' => e = .returned (.tuple #[.int .i64 m, .bool (fxP s.data.toList 3 2)]) ∧ w' = w) := hM
  have D : Hid (∀ w, Calls Tryd.prog 36 #[.string s, .int .i64 6, .int .i64 2] w fun e w' => e = .returned (.tuple #[.int .i64 x, .bool (fxP s.data.toList 6 2)]) ∧ w' = w) := hD
  have A2 : Hid (∀ w, Calls Tryd.prog 37 #[.string s, .int .i64 2, .int .u8 58] w fun e w' => e = .returned (.bool (atB s.data.toList 2 58)) ∧ w' = w) := fun w => atR_of s 2 58 (by omega) w
  have A5 : Hid (∀ w, Calls Tryd.prog 37 #[.string s, .int .i64 5, .int .u8 58] w fun e w' => e = .returned (.bool (atB s.data.toList 5 58)) ∧ w' = w) := fun w => atR_of s 5 58 (by omega) w
  have fm := ck_form s.data.toList
  have SL : s.data.toList.length = s.size := by simp
  clear hY hM hD
  by_cases ok : fmL (s.data.toList.take 8) ckF = true
  · have l8 : 8 ≤ s.size := by have := fmL_take _ ckF ok; rw [SL] at this; exact this
    rw [ok] at fm
    have fm2 := fm.symm
    simp only [Bool.and_eq_true] at fm2
    obtain ⟨f0, f3, f6, a2, a5⟩ := fm2
    have b0 := fxN_two _ _ f0
    have b3 := fxN_two _ _ f3
    have b6 := fxN_two _ _ f6
    rw [f0] at Y
    rw [f3] at M
    rw [f6] at D
    rw [a2] at A2
    rw [a5] at A5
    have eh := hh f0
    have em := hm f3
    have ex := hx f6
    rw [← eh] at b0
    rw [← em] at b3
    rw [← ex] at b6
    have f : ckOk s.data.toList = (ckT (s.data.toList.drop 8) && (decide (h < 24) && (decide (m < 60) && decide (x < 60)))) := by unfold ckOk; rw [ok, eh, em, ex]; rfl
    have N : ckN s.data.toList = h * 3600000000000 + m * 60000000000 + x * 1000000000 + frN 1000000000 (s.data.toList.drop 9) := by unfold ckN; rw [eh, em, ex]
    clear fm ok hh hm hx eh em ex f0 f3 f6 a2 a5
    by_cases c : h < 24 ∧ m < 60 ∧ x < 60
    · obtain ⟨c1, c2, c3⟩ := c
      rw [decide_eq_true c1, decide_eq_true c2, decide_eq_true c3] at f
      simp only [Bool.and_true] at f
      have sum : ((h * 60 + m) * 60 + x) * 1000000000 = h * 3600000000000 + m * 60000000000 + x * 1000000000 := by omega
      by_cases e8 : s.size = 8
      · have d8 : s.data.toList.drop 8 = [] := List.drop_eq_nil_of_le (by omega)
        have d9 : s.data.toList.drop 9 = [] := List.drop_eq_nil_of_le (by omega)
        rw [d8] at f
        have f' : ckOk s.data.toList = true := f
        rw [d9, frN_none] at N
        rw [f']
        refine ⟨ckN s.data.toList, (fun _ => rfl), by rw [N]; omega, fun w => ?_⟩
        rw [N]
        have e8' : (s.size : Int) = 8 := by omega
        clear f f' N d8 d9 SL
        go_enter Tryd.func13, Tryd.ntmps13
        go_wp2_with fail
        refine (Y.out _).mono ?_
        rintro e w2 ⟨rfl, rfl⟩
        go_wp2_with fail
        refine (M.out _).mono ?_
        rintro e w3 ⟨rfl, rfl⟩
        go_wp2_with fail
        refine (D.out _).mono ?_
        rintro e w4 ⟨rfl, rfl⟩
        go_wp2_with fail
        refine (A2.out _).mono ?_
        rintro e w5 ⟨rfl, rfl⟩
        go_wp2_with fail
        refine (A5.out _).mono ?_
        rintro e w6 ⟨rfl, rfl⟩
        go_wp2
        go_returns
        refine ⟨?_, Below.refl _ _⟩
        simp
        try omega
      · have l9 : 9 ≤ s.size := by omega
        have i8 : (8 : Int) < s.size := by omega
        have e8' : ((s.size : Int) == 8) = false := by simp; omega
        have d8 : s.data.toList.drop 8 = s[8] :: s.data.toList.drop 9 := by
          rw [List.drop_eq_getElem_cons (by rw [SL]; omega)]; rfl
        rw [d8] at f
        have RUN : Hid (∀ w, Calls Tryd.prog 30 #[.string s, .int .i64 9] w fun e w' => e = .returned (.int .i64 ((9 + runT digT (s.data.toList.drop 9) : Nat) : Int)) ∧ w' = w) := fun w => runR_of s 9 hml (by omega) w
        have rl := runT_le digT (s.data.toList.drop 9)
        have dl : (s.data.toList.drop 9).length = s.size - 9 := by rw [List.length_drop, SL]
        rw [dl] at rl
        have fk : ckT (s[8] :: s.data.toList.drop 9) = (decide ((s[8].toNat : Int) = 46) && (decide (runT digT (s.data.toList.drop 9) = s.size - 9) && (decide (1 ≤ s.size - 9) && decide (s.size - 9 ≤ 9)))) := by
          have t : (some s[8] == some (46 : UInt8)) = decide ((s[8].toNat : Int) = 46) := by
            by_cases g : s[8] = 46
            · rw [g]; rfl
            · have : ¬ (s[8].toNat : Int) = 46 := fun q => g (UInt8.toNat_inj.mp (by show s[8].toNat = 46; omega))
              rw [decide_eq_false this]
              simpa using g
          unfold ckT
          rw [List.head?_cons, List.tail_cons, dl, t]
          rfl
        rw [fk] at f
        have FRC : Hid (runT digT (s.data.toList.drop 9) = s.size - 9 → 1 ≤ s.size - 9 ∧ s.size - 9 ≤ 9 → (0 ≤ frN 1000000000 (s.data.toList.drop 9) ∧ frN 1000000000 (s.data.toList.drop 9) < 1000000000) ∧ ∀ w, Calls Tryd.prog 35 #[.string (s.extract 9 s.size), .int .i64 1000000000] w fun e w' => e = .returned (.tuple #[.int .i64 (frN 1000000000 (s.data.toList.drop 9)), .bool true]) ∧ Below w.heap.size w w') := fun q r => by
          have AD : AllD (s.data.toList.drop 9) := run_full _ (by rw [q, dl])
          refine ⟨frN_nine _ AD (by rw [dl]; exact r), fun w => ?_⟩
          have ex : (s.extract 9 s.size).data.toList = s.data.toList.drop 9 := by rw [q_ext, q_all]
          have := fractionR_of (s.extract 9 s.size) 1000000000 (Nat.le_trans (ext_le _ _ _) hml) (by rw [ex]; exact AD) (by decide) (by omega) (by omega) w
          rw [ex] at this
          unfold fcV at this
          have sm := frO_nine (s.data.toList.drop 9) (by rw [dl]; exact r.2)
          cases g : frO 1000000000 (s.data.toList.drop 9) with
          | none => rw [g] at sm; cases sm
          | some fr =>
            rw [g] at this
            have z : decide (0 < (s.data.toList.drop 9).length) = true := decide_eq_true (by rw [dl]; omega)
            simp only [z] at this
            unfold frN
            rw [g]
            exact this
        clear fk d8 dl
        generalize runT digT (s.data.toList.drop 9) = t at *
        generalize frN 1000000000 (s.data.toList.drop 9) = fr at *
        have way : (¬ (s[8].toNat : Int) = 46) ∨ ((s[8].toNat : Int) = 46 ∧ ¬ t = s.size - 9) ∨ ((s[8].toNat : Int) = 46 ∧ t = s.size - 9 ∧ ¬ 1 ≤ s.size - 9) ∨ ((s[8].toNat : Int) = 46 ∧ t = s.size - 9 ∧ 1 ≤ s.size - 9 ∧ ¬ s.size - 9 ≤ 9) ∨ ((s[8].toNat : Int) = 46 ∧ t = s.size - 9 ∧ 1 ≤ s.size - 9 ∧ s.size - 9 ≤ 9) := by omega
        rcases way with g | ⟨g, g2⟩ | ⟨g, g2, g3⟩ | ⟨g, g2, g3, g4⟩ | ⟨g, g2, g3, g4⟩
        · rw [decide_eq_false g, Bool.false_and] at f
          rw [f]
          refine ⟨0, (fun q => by cases q), by omega, fun w => ?_⟩
          have g' : ((s[8].toNat : Int) == 46) = false := by simpa using g
          have g'' : ((s[8].toNat : Int) != 46) = true := by simpa using g
          clear f N FRC SL sum
          go_enter Tryd.func13, Tryd.ntmps13
          go_wp2_with fail
          refine (Y.out _).mono ?_
          rintro e w2 ⟨rfl, rfl⟩
          go_wp2_with fail
          refine (M.out _).mono ?_
          rintro e w3 ⟨rfl, rfl⟩
          go_wp2_with fail
          refine (D.out _).mono ?_
          rintro e w4 ⟨rfl, rfl⟩
          go_wp2_with fail
          refine (A2.out _).mono ?_
          rintro e w5 ⟨rfl, rfl⟩
          go_wp2_with fail
          refine (A5.out _).mono ?_
          rintro e w6 ⟨rfl, rfl⟩
          go_wp2_with (go_at_call 30; refine (RUN.out _).mono ?_; rintro e w7 ⟨rfl, rfl⟩)
          go_returns
          exact ⟨rfl, Below.refl _ _⟩
        · rw [decide_eq_true g, decide_eq_false g2] at f
          rw [f]
          refine ⟨0, (fun q => by cases q), by omega, fun w => ?_⟩
          have q1 : (((9 + t : Nat) : Int) == s.size) = false := by simp; omega
          have q2 : (((9 + t : Nat) : Int) != s.size) = true := by simp; omega
          clear f N FRC SL sum
          go_enter Tryd.func13, Tryd.ntmps13
          go_wp2_with fail
          refine (Y.out _).mono ?_
          rintro e w2 ⟨rfl, rfl⟩
          go_wp2_with fail
          refine (M.out _).mono ?_
          rintro e w3 ⟨rfl, rfl⟩
          go_wp2_with fail
          refine (D.out _).mono ?_
          rintro e w4 ⟨rfl, rfl⟩
          go_wp2_with fail
          refine (A2.out _).mono ?_
          rintro e w5 ⟨rfl, rfl⟩
          go_wp2_with fail
          refine (A5.out _).mono ?_
          rintro e w6 ⟨rfl, rfl⟩
          go_wp2_with (go_at_call 30; refine (RUN.out _).mono ?_; rintro e w7 ⟨rfl, rfl⟩)
          all_goals
            go_returns
            exact ⟨rfl, Below.refl _ _⟩
        · rw [decide_eq_true g, decide_eq_true g2, decide_eq_false g3] at f
          rw [f]
          refine ⟨0, (fun q => by cases q), by omega, fun w => ?_⟩
          clear f N FRC SL sum
          go_enter Tryd.func13, Tryd.ntmps13
          go_wp2_with fail
          refine (Y.out _).mono ?_
          rintro e w2 ⟨rfl, rfl⟩
          go_wp2_with fail
          refine (M.out _).mono ?_
          rintro e w3 ⟨rfl, rfl⟩
          go_wp2_with fail
          refine (D.out _).mono ?_
          rintro e w4 ⟨rfl, rfl⟩
          go_wp2_with fail
          refine (A2.out _).mono ?_
          rintro e w5 ⟨rfl, rfl⟩
          go_wp2_with fail
          refine (A5.out _).mono ?_
          rintro e w6 ⟨rfl, rfl⟩
          go_wp2_with (go_at_call 30; refine (RUN.out _).mono ?_; rintro e w7 ⟨rfl, rfl⟩)
          all_goals
            go_returns
            exact ⟨rfl, Below.refl _ _⟩
        · rw [decide_eq_true g, decide_eq_true g2, decide_eq_true g3, decide_eq_false g4] at f
          rw [f]
          refine ⟨0, (fun q => by cases q), by omega, fun w => ?_⟩
          clear f N FRC SL sum
          go_enter Tryd.func13, Tryd.ntmps13
          go_wp2_with fail
          refine (Y.out _).mono ?_
          rintro e w2 ⟨rfl, rfl⟩
          go_wp2_with fail
          refine (M.out _).mono ?_
          rintro e w3 ⟨rfl, rfl⟩
          go_wp2_with fail
          refine (D.out _).mono ?_
          rintro e w4 ⟨rfl, rfl⟩
          go_wp2_with fail
          refine (A2.out _).mono ?_
          rintro e w5 ⟨rfl, rfl⟩
          go_wp2_with fail
          refine (A5.out _).mono ?_
          rintro e w6 ⟨rfl, rfl⟩
          go_wp2_with (go_at_call 30; refine (RUN.out _).mono ?_; rintro e w7 ⟨rfl, rfl⟩)
          all_goals
            go_returns
            exact ⟨rfl, Below.refl _ _⟩
        · rw [decide_eq_true g, decide_eq_true g2, decide_eq_true g3, decide_eq_true g4] at f
          obtain ⟨fb, hF⟩ := FRC.out g2 ⟨g3, g4⟩
          have F : Hid _ := hF
          rw [f]
          refine ⟨ckN s.data.toList, (fun _ => rfl), by rw [N]; omega, fun w => ?_⟩
          rw [N]
          have q1 : (((9 + t : Nat) : Int) == s.size) = true := by simp; omega
          have q2 : (((9 + t : Nat) : Int) != s.size) = false := by simp; omega
          clear f N FRC hF SL sum
          go_enter Tryd.func13, Tryd.ntmps13
          go_wp2_with fail
          refine (Y.out _).mono ?_
          rintro e w2 ⟨rfl, rfl⟩
          go_wp2_with fail
          refine (M.out _).mono ?_
          rintro e w3 ⟨rfl, rfl⟩
          go_wp2_with fail
          refine (D.out _).mono ?_
          rintro e w4 ⟨rfl, rfl⟩
          go_wp2_with fail
          refine (A2.out _).mono ?_
          rintro e w5 ⟨rfl, rfl⟩
          go_wp2_with fail
          refine (A5.out _).mono ?_
          rintro e w6 ⟨rfl, rfl⟩
          go_wp2_with (go_at_call 30; refine (RUN.out _).mono ?_; rintro e w7 ⟨rfl, rfl⟩)
          refine (F.out _).mono ?_
          rintro e w8 ⟨rfl, hb8⟩
          have B8 : Hid (Below w7.heap.size w7 w8) := hb8
          clear hb8
          go_wp2
          go_returns
          refine ⟨?_, B8.out⟩
          simp
          try omega
    · have c' : (¬ h < 24) ∨ (h < 24 ∧ ¬ m < 60) ∨ (h < 24 ∧ m < 60 ∧ ¬ x < 60) := by omega
      have f' : ckOk s.data.toList = false := by
        rw [f]
        cases ckT (s.data.toList.drop 8)
        · rfl
        · rcases c' with c1 | ⟨c1, c2⟩ | ⟨c1, c2, c3⟩
          · rw [decide_eq_false c1]; rfl
          · rw [decide_eq_false c2]; simp
          · rw [decide_eq_false c3]; simp
      rw [f']
      refine ⟨0, (fun q => by cases q), by omega, fun w => ?_⟩
      clear f f' N SL
      rcases c' with c1 | ⟨c1, c2⟩ | ⟨c1, c2, c3⟩
      all_goals
        go_enter Tryd.func13, Tryd.ntmps13
        go_wp2_with fail
        refine (Y.out _).mono ?_
        rintro e w2 ⟨rfl, rfl⟩
        go_wp2_with fail
        refine (M.out _).mono ?_
        rintro e w3 ⟨rfl, rfl⟩
        go_wp2_with fail
        refine (D.out _).mono ?_
        rintro e w4 ⟨rfl, rfl⟩
        go_wp2_with fail
        refine (A2.out _).mono ?_
        rintro e w5 ⟨rfl, rfl⟩
        go_wp2_with fail
        refine (A5.out _).mono ?_
        rintro e w6 ⟨rfl, rfl⟩
        go_wp2
        go_returns
        exact ⟨rfl, Below.refl _ _⟩
  · have okf : fmL (s.data.toList.take 8) ckF = false := by simpa using ok
    have f : ckOk s.data.toList = false := by unfold ckOk; rw [okf]; rfl
    rw [f]
    refine ⟨0, (fun q => by cases q), by omega, fun w => ?_⟩
    rw [okf] at fm
    have fm2 := fm.symm
    clear fm f ok okf hh hm hx SL
    generalize fxP s.data.toList 0 2 = p0 at *
    generalize fxP s.data.toList 3 2 = p3 at *
    generalize fxP s.data.toList 6 2 = p6 at *
    generalize atB s.data.toList 2 58 = b2 at *
    generalize atB s.data.toList 5 58 = b5 at *
    cases p0
    case false =>
      clear fm2
      go_enter Tryd.func13, Tryd.ntmps13
      go_wp2_with fail
      refine (Y.out _).mono ?_
      rintro e w2 ⟨rfl, rfl⟩
      go_wp2_with fail
      refine (M.out _).mono ?_
      rintro e w3 ⟨rfl, rfl⟩
      go_wp2_with fail
      refine (D.out _).mono ?_
      rintro e w4 ⟨rfl, rfl⟩
      go_wp2
      go_returns
      exact ⟨rfl, Below.refl _ _⟩
    cases p3
    case false =>
      clear fm2
      go_enter Tryd.func13, Tryd.ntmps13
      go_wp2_with fail
      refine (Y.out _).mono ?_
      rintro e w2 ⟨rfl, rfl⟩
      go_wp2_with fail
      refine (M.out _).mono ?_
      rintro e w3 ⟨rfl, rfl⟩
      go_wp2_with fail
      refine (D.out _).mono ?_
      rintro e w4 ⟨rfl, rfl⟩
      go_wp2
      go_returns
      exact ⟨rfl, Below.refl _ _⟩
    cases p6
    case false =>
      clear fm2
      go_enter Tryd.func13, Tryd.ntmps13
      go_wp2_with fail
      refine (Y.out _).mono ?_
      rintro e w2 ⟨rfl, rfl⟩
      go_wp2_with fail
      refine (M.out _).mono ?_
      rintro e w3 ⟨rfl, rfl⟩
      go_wp2_with fail
      refine (D.out _).mono ?_
      rintro e w4 ⟨rfl, rfl⟩
      go_wp2
      go_returns
      exact ⟨rfl, Below.refl _ _⟩
    cases b2
    case false =>
      clear fm2
      go_enter Tryd.func13, Tryd.ntmps13
      go_wp2_with fail
      refine (Y.out _).mono ?_
      rintro e w2 ⟨rfl, rfl⟩
      go_wp2_with fail
      refine (M.out _).mono ?_
      rintro e w3 ⟨rfl, rfl⟩
      go_wp2_with fail
      refine (D.out _).mono ?_
      rintro e w4 ⟨rfl, rfl⟩
      go_wp2_with fail
      refine (A2.out _).mono ?_
      rintro e w5 ⟨rfl, rfl⟩
      go_wp2
      go_returns
      exact ⟨rfl, Below.refl _ _⟩
    cases b5
    case false =>
      clear fm2
      go_enter Tryd.func13, Tryd.ntmps13
      go_wp2_with fail
      refine (Y.out _).mono ?_
      rintro e w2 ⟨rfl, rfl⟩
      go_wp2_with fail
      refine (M.out _).mono ?_
      rintro e w3 ⟨rfl, rfl⟩
      go_wp2_with fail
      refine (D.out _).mono ?_
      rintro e w4 ⟨rfl, rfl⟩
      go_wp2_with fail
      refine (A2.out _).mono ?_
      rintro e w5 ⟨rfl, rfl⟩
      go_wp2_with fail
      refine (A5.out _).mono ?_
      rintro e w6 ⟨rfl, rfl⟩
      go_wp2
      go_returns
      exact ⟨rfl, Below.refl _ _⟩
    case true => cases fm2
end Go.Proofs.YtpdnlojennhmpaaDoor
