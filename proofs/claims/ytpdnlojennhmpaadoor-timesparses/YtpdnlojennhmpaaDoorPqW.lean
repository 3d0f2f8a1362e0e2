/- What the document's span answers of every text; no statement of the seat is proved here. -/
import Derived.Test.YtpdnlojennhmpaaDoorPqV
namespace Go.Proofs.YtpdnlojennhmpaaDoor
set_option linter.unusedVariables false
open Go.RowKit
theorem qL_day (i : Nat) (h : i < 7) : qL i ∣ 86400000000000 := by
  rcases (by omega : i = 0 ∨ i = 1 ∨ i = 2 ∨ i = 3 ∨ i = 4 ∨ i = 5 ∨ i = 6) with rfl | rfl | rfl | rfl | rfl | rfl | rfl <;> decide
theorem pM_bd (i : Nat) : pM i ≤ 9223372036854775807 := by
  unfold pM
  by_cases h : i < 7
  · rcases (by omega : i = 0 ∨ i = 1 ∨ i = 2 ∨ i = 3 ∨ i = 4 ∨ i = 5 ∨ i = 6) with rfl | rfl | rfl | rfl | rfl | rfl | rfl <;> decide
  · rw [List.getD_eq_getElem?_getD, List.getElem?_eq_none (by show 7 ≤ i; omega)]; decide
theorem frO_nil (u : Nat) : frO u [] = some 0 := by simp [frO, valR]
/-- What the next round begins with. -/
def spR (L : List UInt8) (p x k : Nat) : Option Nat := if k = 0 then spO (L.drop p) x k else if L.drop p = [] then some x else spO (trU (L.drop p)) x k
theorem spR_next (l : List UInt8) (L : List UInt8) (q x m k i : Nat) (hp : ptO l k = some (m, i, L.drop q)) (hx : x + m ≤ 9223372036854775807) : spO l x k = spR L q (x + m) (i + 1) := by
  rw [spO_step, hp]
  simp only
  rw [if_pos hx]
  unfold spR
  rw [if_neg (show ¬ i + 1 = 0 from by omega)]
theorem spO_over (l r : List UInt8) (x m k i : Nat) (hp : ptO l k = some (m, i, r)) (hx : ¬ x + m ≤ 9223372036854775807) : spO l x k = none := by
  rw [spO_step, hp]
  simp only
  rw [if_neg hx]
theorem spO_none (l : List UInt8) (x k : Nat) (hp : ptO l k = none) : spO l x k = none := by rw [spO_step, hp]
set_option maxRecDepth 100000 in
set_option maxHeartbeats 8000000 in
theorem spanR_of (s : ByteArray) (hs : s.size ≤ 140737488355328) (w : World) : Calls Tryd.prog 11 #[.string s] w fun e w' => e = .returned (soV false (spO s.data.toList 0 0)) ∧ Below w.heap.size w w' := by
  have hml : s.size ≤ maxLen := by unfold maxLen; omega
  have SL : Hid (s.data.toList.length = s.size) := by show _ = _; simp
  generalize hR : spO s.data.toList 0 0 = R
  have HR : Hid (spO s.data.toList 0 0 = R) := hR
  clear hR
  go_enter Tryd.func11, Tryd.ntmps11
  go_wp2_with fail
  go_loopw [4, 5, 6] (fun vs vl vp wr => ∃ (x k p : Nat), vs = .int .i64 (x : Int) ∧ x ≤ 9223372036854775807 ∧ vl = .int .i64 ((k : Int) - 1) ∧ k ≤ 7 ∧ vp = .int .i64 (p : Int) ∧ p ≤ s.size ∧ (k = 0 → x = 0) ∧ Hid (R = spR s.data.toList p x k) ∧ Below w.heap.size w wr) (fun _ vl _ _ => (7 - intOf vl).toNat)
  case atStart => exact ⟨0, 0, 0, rfl, by omega, rfl, by omega, rfl, by omega, fun _ => rfl, by show _ = _; rw [← HR.out]; unfold spR; rw [if_pos rfl, List.drop_zero], Below.refl _ _⟩
  case round =>
    obtain ⟨x, k, p, rfl, hx, rfl, hk, rfl, hp, kp, HK, hB⟩ := hrel
    have B : Hid (Below w.heap.size w wr) := hB
    clear hB
    by_cases hlt : p < s.size
    · have i1 : (p : Int) < s.size := by omega
      have dne : Hid (s.data.toList.drop p = s[p] :: s.data.toList.drop (p + 1)) := by
        show _ = _
        rw [List.drop_eq_getElem_cons (by rw [SL.out]; exact hlt)]
        rfl
      have way : (k = 0 ∧ R = spO (s.data.toList.drop p) x k) ∨ (1 ≤ k ∧ (s[p].toNat : Int) = 95 ∧ R = spO (s.data.toList.drop (p + 1)) x k) ∨ (1 ≤ k ∧ ¬ (s[p].toNat : Int) = 95 ∧ R = spO (s.data.toList.drop p) x k) := by
        by_cases k0 : k = 0
        · left
          refine ⟨k0, ?_⟩
          rw [HK.out, spR, if_pos k0]
        · right
          have r := HK.out
          rw [spR, if_neg k0, if_neg (by rw [dne.out]; simp)] at r
          by_cases c : (s[p].toNat : Int) = 95
          · left
            refine ⟨by omega, c, ?_⟩
            have c' : s[p] = 95 := UInt8.toNat_inj.mp (by show s[p].toNat = 95; omega)
            rw [r, trU, dne.out, c']
            rfl
          · right
            refine ⟨by omega, c, ?_⟩
            have c' : ¬ s[p] = 95 := fun e => c (by rw [e]; rfl)
            rw [r, trU, dne.out]
            simp [c']
      clear HK dne kp
      rcases way with ⟨k0, r⟩ | ⟨k0, c95, r⟩ | ⟨k0, c95, r⟩
      · have k0' : (k : Int) - 1 < 0 := by omega
        have RS : Hid (R = spO (s.data.toList.drop (p)) x k) := r
        clear r
        have HP : p ≤ s.size := by omega
        have RUN1 : Hid (∀ z : Int, z = ((p : Nat) : Int) → ∀ w, Calls Tryd.prog 30 #[.string s, .int .i64 z] w fun e w' => e = .returned (.int .i64 ((p + runT digT (s.data.toList.drop (p)) : Nat) : Int)) ∧ w' = w) := fun z hz w => by subst hz; exact runR_of s (p) hml HP w
        have rl := runT_le2 digT s.data.toList (p) (by rw [SL.out]; exact HP)
        rw [SL.out] at rl
        have NUM : Hid (∀ w, Calls Tryd.prog 31 #[.string (s.extract (p) (p + runT digT (s.data.toList.drop (p))))] w fun e w' => e = .returned (.tuple #[.int .i64 (rnN (cpW (s.data.toList.drop (p)))), .bool (rnP (cpW (s.data.toList.drop (p))))]) ∧ w' = w) := fun w => by
          have := numberR_of (s.extract (p) (p + runT digT (s.data.toList.drop (p)))) w (Nat.le_trans (ext_le _ _ _) hml)
          rwa [cpW_at, rnV_q, ← cpW_at] at this
        have nb := rnN_bd (cpW (s.data.toList.drop (p)))
        have NO : Hid (rnP (cpW (s.data.toList.drop (p))) = false → R = none) := fun h => by rw [RS.out]; exact spO_none _ _ _ (ptO_nonum _ _ h)
        have CD : Hid _ := cpD_at s (p)
        have C3D : Hid _ := cp3_dot s.data.toList (p)
        have CBD : Hid _ := cpB_dot s (p)
        have C3N : Hid _ := cp3_no s.data.toList (p)
        have CBN : Hid _ := cpB_no (s.data.toList.drop (p))
        have CU : Hid (∀ q, _) := fun q => cpU_at s.data.toList (p) q
        have CR : Hid (∀ q, _) := fun q => cpR_at s.data.toList (p) q
        have BD : Hid _ := cpB_dig (s.data.toList.drop (p))
        have NF : Hid _ := ptO_nofu (s.data.toList.drop (p)) k
        have BADN : Hid _ := ptO_bad (s.data.toList.drop (p)) k
        have PY0 : Hid (∀ i, _) := fun i => ptO_yes (s.data.toList.drop (p)) k i
        have FF : Hid _ := fuO_from (Lib.toUpperA (cpU (s.data.toList.drop (p)))) k hk
        have LZ : Hid ((s.data.toList.drop (p)).length ≤ s.size) := by show _ ≤ _; rw [List.length_drop, SL.out]; omega
        generalize hl1 : s.data.toList.drop (p) = l1 at *
        generalize hd1 : runT digT l1 = d at *
        have xd : p + d ≤ s.size := by omega
        clear hl1 hd1
        cases hp : rnP (cpW l1)
        · have E : Hid (R = none) := NO.out hp
          have NUM0 : Hid (∀ w, Calls Tryd.prog 31 #[.string (s.extract (p) (p + d))] w fun e w' => e = .returned (.tuple #[.int .i64 (rnN (cpW l1)), .bool false]) ∧ w' = w) := fun w => by have := NUM.out w; rwa [hp] at this
          clear NUM NO CD C3D CBD C3N CBN CU CR BD RS hp NF BADN PY0 FF LZ
          generalize rnN (cpW l1) = n at *
          go_wp2_with fail
          refine (RUN1.out _ (by first | rfl | omega) _).mono ?_
          rintro e w1 ⟨rfl, rfl⟩
          go_wp2_with (go_at_call 31; refine (NUM0.out _).mono ?_; rintro e w1 ⟨rfl, rfl⟩)
          go_returns
          exact ⟨by rw [E.out]; rfl, B.out⟩
        · obtain ⟨N, hN⟩ := Int.eq_ofNat_of_zero_le nb.1
          have NUM0 : Hid (∀ w, Calls Tryd.prog 31 #[.string (s.extract (p) (p + d))] w fun e w' => e = .returned (.tuple #[.int .i64 (N : Int), .bool true]) ∧ w' = w) := fun w => by have := NUM.out w; rwa [hp, hN] at this
          have PY : Hid (∀ i, fuO (Lib.toUpperA (cpU l1)) k = some i → ¬ (cpD l1 = true ∧ (cpB l1 = [] ∨ cpR l1 ≠ [])) → ptO l1 k = if ¬ k = 0 ∧ pM i ≤ N then none else match frO (qL i) (cpB l1) with | none => none | some f => some (N * qL i + f, i, cpR l1)) := fun i h1 h2 => by
            have := PY0.out i hp h1 h2
            rwa [hN, Int.toNat_natCast] at this
          have Nb : N ≤ 9223372036854775807 := by omega
          clear NUM NO hp nb hN PY0
          cases hdot : cpD l1
          · have C3X := C3N.out hdot
            have FRB : Hid (∀ i, frO (qL i) (cpB l1) = some 0) := fun i => by rw [CBN.out hdot]; exact frO_nil _
            have dotF : (p + d < s.size ∧ ∃ h : p + d < s.size, ¬ (s[p + d].toNat : Int) = 46) ∨ p + d = s.size := by
              by_cases h : p + d < s.size
              · left
                refine ⟨h, h, ?_⟩
                have c := CD.out
                rw [hdot, dif_pos h] at c
                exact of_decide_eq_false c.symm
              · right; omega
            clear CD C3D CBD C3N CBN LZ
            rcases dotF with ⟨xlt, h46, n46⟩ | xeq
            · have n46' : ((s[p + d].toNat : Int) == 46) = false := by simpa using n46
              have xlt' : ((p + d : Nat) : Int) < s.size := by omega
              have UA : Hid (∀ w, Calls Tryd.prog 32 #[.string s, .int .i64 ((p + d : Nat) : Int)] w fun e w' => e = .returned (uaV s.data.toList (p + d)) ∧ Below w.heap.size w w') := fun w => unitAtR_of s (p + d) hs (by omega) w
              have eU := CU.out (p + d) C3X
              have eR := CR.out (p + d) C3X
              have rt := runT_le2 letT s.data.toList (p + d) (by rw [SL.out]; omega)
              rw [SL.out] at rt
              unfold uaV at UA
              rw [eU] at UA
              generalize runT letT (s.data.toList.drop (p + d)) = t at *
              have ER : Hid (cpR l1 = s.data.toList.drop (p + d + t)) := eR
              have RE : Hid (cpR l1 = [] ↔ p + d + t = s.size) := by
                show _ ↔ _
                rw [eR, List.drop_eq_nil_iff, SL.out]
                omega
              cases hf : fuO (Lib.toUpperA (cpU l1)) 0 with
              | none =>
                have E : Hid (R = none) := by
                  show _ = _
                  rw [RS.out]
                  exact spO_none _ _ _ (NF.out (by rw [FF.out, hf]))
                rw [hf] at UA
                have UAX : Hid (∀ w, Calls Tryd.prog 32 #[.string s, .int .i64 ((p + d : Nat) : Int)] w fun e w' => e = .returned (.tuple #[.int .i64 (-1), .int .i64 ((p + d : Nat) : Int)]) ∧ Below w.heap.size w w') := UA.out
                clear RS PY NF FF BADN CU CR BD eU eR hf C3X FRB UA ER RE
                go_wp2_with fail
                refine (RUN1.out _ (by first | rfl | omega) _).mono ?_
                rintro e w1 ⟨rfl, rfl⟩
                go_wp2_with (go_at_call 31; refine (NUM0.out _).mono ?_; rintro e w1 ⟨rfl, rfl⟩)
                refine (UAX.out _).mono ?_
                rintro e w4 ⟨rfl, hb4⟩
                have B4 : Hid (Below w.heap.size w w4) := B.out.trans (hb4.mono B.out.size)
                clear hb4
                go_wp2
                go_returns
                exact ⟨by rw [E.out]; rfl, B4.out⟩
              | some i =>
                have i7 : i < 7 := (fuO_bd _ _ _ hf).2
                rw [hf] at UA
                have UAX : Hid (∀ w, Calls Tryd.prog 32 #[.string s, .int .i64 ((p + d : Nat) : Int)] w fun e w' => e = .returned (.tuple #[.int .i64 (i : Int), .int .i64 ((p + d + t : Nat) : Int)]) ∧ Below w.heap.size w w') := UA.out
                clear UA
                · have ki : k ≤ i := by omega
                  have fk : fuO (Lib.toUpperA (cpU l1)) k = some i := by rw [FF.out, hf]; simp only; rw [if_pos ki]
                  have UNIT : Hid _ := fun w => unitR_of i i7 w
                  have ub := qL_bd i
                  have mb := pM_bd i
                  have PYi : Hid _ := PY.out i fk (fun h => by rw [hdot] at h; cases h.1)
                  · have bnd : ¬ (¬ k = 0 ∧ pM i ≤ N) := fun h => h.1 k0
                    rw [if_neg bnd] at PYi
                    have PL : Hid _ := fun w => plusR_of x N (qL i) hx (by omega) (by omega) w
                    unfold plV at PL
                    rcases Nat.lt_or_ge 9223372036854775807 (x + N * qL i) with p1 | p1
                    · have E : Hid (R = none) := by
                        show _ = _
                        rw [RS.out]
                        have q := PYi.out
                        rw [FRB.out] at q
                        exact spO_over _ _ _ _ _ _ q (by omega)
                      rw [if_neg (Nat.not_le.mpr p1)] at PL
                      clear RS PY NF FF BADN CU CR BD eU eR hf C3X FRB ER RE PYi bnd
                      generalize bl (loN i) = un at *
                      all_goals
                        go_wp2_with fail
                        refine (RUN1.out _ (by first | rfl | omega) _).mono ?_
                        rintro e w1 ⟨rfl, rfl⟩
                        go_wp2_with (go_at_call 31; refine (NUM0.out _).mono ?_; rintro e w1 ⟨rfl, rfl⟩)
                        refine (UAX.out _).mono ?_
                        rintro e w4 ⟨rfl, hb4⟩
                        have B4 : Hid (Below w.heap.size w w4) := B.out.trans (hb4.mono B.out.size)
                        clear hb4
                        go_wp2_with (first
                          | (go_at_call 33; refine (UNIT.out _).mono ?_; rintro e w5 ⟨rfl, rfl⟩)
                          | (go_at_call 34; refine (PL.out _).mono ?_; rintro e w6 ⟨rfl, rfl⟩))
                        go_returns
                        exact ⟨by rw [E.out]; rfl, B4.out⟩
                    rw [if_pos p1] at PL
                    have NX : Hid (R = spR s.data.toList (p + d + t) (x + N * qL i) (i + 1)) := by
                      show _ = _
                      have q := PYi.out
                      rw [FRB.out, ER.out] at q
                      simp only [Nat.add_zero] at q
                      rw [RS.out]
                      exact spR_next _ _ _ _ _ _ _ q p1
                    clear RS PY NF FF BADN CU CR BD eU eR hf C3X FRB ER RE PYi bnd
                    generalize bl (loN i) = un at *
                    generalize hm : N * qL i = m at *
                    all_goals
                      go_wp2_with fail
                      refine (RUN1.out _ (by first | rfl | omega) _).mono ?_
                      rintro e w1 ⟨rfl, rfl⟩
                      go_wp2_with (go_at_call 31; refine (NUM0.out _).mono ?_; rintro e w1 ⟨rfl, rfl⟩)
                      refine (UAX.out _).mono ?_
                      rintro e w4 ⟨rfl, hb4⟩
                      have B4 : Hid (Below w.heap.size w w4) := B.out.trans (hb4.mono B.out.size)
                      clear hb4
                      go_wp2_with (first
                        | (go_at_call 33; refine (UNIT.out _).mono ?_; rintro e w5 ⟨rfl, rfl⟩)
                        | (go_at_call 34; refine (PL.out _).mono ?_; rintro e w6 ⟨rfl, rfl⟩))
                      go_roundw
                      case rel =>
                        go_light
                        exact ⟨x + m, i + 1, p + d + t, by first | rfl | (congr 1; omega), p1, congrArg (Value.int .i64) (by omega), by omega, by first | rfl | exact congrArg (Value.int .i64) (by omega), by omega, by omega, NX, B4.out⟩
                      case measure => simp [intOf]; omega
            · have xge : ¬ ((p + d : Nat) : Int) < s.size := by omega
              clear xeq
              have UA : Hid (∀ w, Calls Tryd.prog 32 #[.string s, .int .i64 ((p + d : Nat) : Int)] w fun e w' => e = .returned (uaV s.data.toList (p + d)) ∧ Below w.heap.size w w') := fun w => unitAtR_of s (p + d) hs (by omega) w
              have eU := CU.out (p + d) C3X
              have eR := CR.out (p + d) C3X
              have rt := runT_le2 letT s.data.toList (p + d) (by rw [SL.out]; omega)
              rw [SL.out] at rt
              unfold uaV at UA
              rw [eU] at UA
              generalize runT letT (s.data.toList.drop (p + d)) = t at *
              have ER : Hid (cpR l1 = s.data.toList.drop (p + d + t)) := eR
              have RE : Hid (cpR l1 = [] ↔ p + d + t = s.size) := by
                show _ ↔ _
                rw [eR, List.drop_eq_nil_iff, SL.out]
                omega
              cases hf : fuO (Lib.toUpperA (cpU l1)) 0 with
              | none =>
                have E : Hid (R = none) := by
                  show _ = _
                  rw [RS.out]
                  exact spO_none _ _ _ (NF.out (by rw [FF.out, hf]))
                rw [hf] at UA
                have UAX : Hid (∀ w, Calls Tryd.prog 32 #[.string s, .int .i64 ((p + d : Nat) : Int)] w fun e w' => e = .returned (.tuple #[.int .i64 (-1), .int .i64 ((p + d : Nat) : Int)]) ∧ Below w.heap.size w w') := UA.out
                clear RS PY NF FF BADN CU CR BD eU eR hf C3X FRB UA ER RE
                go_wp2_with fail
                refine (RUN1.out _ (by first | rfl | omega) _).mono ?_
                rintro e w1 ⟨rfl, rfl⟩
                go_wp2_with (go_at_call 31; refine (NUM0.out _).mono ?_; rintro e w1 ⟨rfl, rfl⟩)
                refine (UAX.out _).mono ?_
                rintro e w4 ⟨rfl, hb4⟩
                have B4 : Hid (Below w.heap.size w w4) := B.out.trans (hb4.mono B.out.size)
                clear hb4
                go_wp2
                go_returns
                exact ⟨by rw [E.out]; rfl, B4.out⟩
              | some i =>
                have i7 : i < 7 := (fuO_bd _ _ _ hf).2
                rw [hf] at UA
                have UAX : Hid (∀ w, Calls Tryd.prog 32 #[.string s, .int .i64 ((p + d : Nat) : Int)] w fun e w' => e = .returned (.tuple #[.int .i64 (i : Int), .int .i64 ((p + d + t : Nat) : Int)]) ∧ Below w.heap.size w w') := UA.out
                clear UA
                · have ki : k ≤ i := by omega
                  have fk : fuO (Lib.toUpperA (cpU l1)) k = some i := by rw [FF.out, hf]; simp only; rw [if_pos ki]
                  have UNIT : Hid _ := fun w => unitR_of i i7 w
                  have ub := qL_bd i
                  have mb := pM_bd i
                  have PYi : Hid _ := PY.out i fk (fun h => by rw [hdot] at h; cases h.1)
                  · have bnd : ¬ (¬ k = 0 ∧ pM i ≤ N) := fun h => h.1 k0
                    rw [if_neg bnd] at PYi
                    have PL : Hid _ := fun w => plusR_of x N (qL i) hx (by omega) (by omega) w
                    unfold plV at PL
                    rcases Nat.lt_or_ge 9223372036854775807 (x + N * qL i) with p1 | p1
                    · have E : Hid (R = none) := by
                        show _ = _
                        rw [RS.out]
                        have q := PYi.out
                        rw [FRB.out] at q
                        exact spO_over _ _ _ _ _ _ q (by omega)
                      rw [if_neg (Nat.not_le.mpr p1)] at PL
                      clear RS PY NF FF BADN CU CR BD eU eR hf C3X FRB ER RE PYi bnd
                      generalize bl (loN i) = un at *
                      all_goals
                        go_wp2_with fail
                        refine (RUN1.out _ (by first | rfl | omega) _).mono ?_
                        rintro e w1 ⟨rfl, rfl⟩
                        go_wp2_with (go_at_call 31; refine (NUM0.out _).mono ?_; rintro e w1 ⟨rfl, rfl⟩)
                        refine (UAX.out _).mono ?_
                        rintro e w4 ⟨rfl, hb4⟩
                        have B4 : Hid (Below w.heap.size w w4) := B.out.trans (hb4.mono B.out.size)
                        clear hb4
                        go_wp2_with (first
                          | (go_at_call 33; refine (UNIT.out _).mono ?_; rintro e w5 ⟨rfl, rfl⟩)
                          | (go_at_call 34; refine (PL.out _).mono ?_; rintro e w6 ⟨rfl, rfl⟩))
                        go_returns
                        exact ⟨by rw [E.out]; rfl, B4.out⟩
                    rw [if_pos p1] at PL
                    have NX : Hid (R = spR s.data.toList (p + d + t) (x + N * qL i) (i + 1)) := by
                      show _ = _
                      have q := PYi.out
                      rw [FRB.out, ER.out] at q
                      simp only [Nat.add_zero] at q
                      rw [RS.out]
                      exact spR_next _ _ _ _ _ _ _ q p1
                    clear RS PY NF FF BADN CU CR BD eU eR hf C3X FRB ER RE PYi bnd
                    generalize bl (loN i) = un at *
                    generalize hm : N * qL i = m at *
                    all_goals
                      go_wp2_with fail
                      refine (RUN1.out _ (by first | rfl | omega) _).mono ?_
                      rintro e w1 ⟨rfl, rfl⟩
                      go_wp2_with (go_at_call 31; refine (NUM0.out _).mono ?_; rintro e w1 ⟨rfl, rfl⟩)
                      refine (UAX.out _).mono ?_
                      rintro e w4 ⟨rfl, hb4⟩
                      have B4 : Hid (Below w.heap.size w w4) := B.out.trans (hb4.mono B.out.size)
                      clear hb4
                      go_wp2_with (first
                        | (go_at_call 33; refine (UNIT.out _).mono ?_; rintro e w5 ⟨rfl, rfl⟩)
                        | (go_at_call 34; refine (PL.out _).mono ?_; rintro e w6 ⟨rfl, rfl⟩))
                      go_roundw
                      case rel =>
                        go_light
                        exact ⟨x + m, i + 1, p + d + t, by first | rfl | (congr 1; omega), p1, congrArg (Value.int .i64) (by omega), by omega, by first | rfl | exact congrArg (Value.int .i64) (by omega), by omega, by omega, NX, B4.out⟩
                      case measure => simp [intOf]; omega
          · have h46 : ∃ h : p + d < s.size, (s[p + d].toNat : Int) = 46 := by
              have c := CD.out
              rw [hdot] at c
              by_cases h : p + d < s.size
              · rw [dif_pos h] at c
                exact ⟨h, of_decide_eq_true c.symm⟩
              · rw [dif_neg h] at c; cases c
            obtain ⟨xlt, x46⟩ := h46
            have xlt' : ((p + d : Nat) : Int) < s.size := by omega
            have C3X := C3D.out hdot
            have CB : Hid _ := CBD.out hdot
            have RUN2 : Hid (∀ z : Int, z = ((p + d + 1 : Nat) : Int) → ∀ w, Calls Tryd.prog 30 #[.string s, .int .i64 z] w fun e w' => e = .returned (.int .i64 ((p + d + 1 + runT digT (s.data.toList.drop (p + d + 1)) : Nat) : Int)) ∧ w' = w) := fun z hz w => by subst hz; exact runR_of s (p + d + 1) hml (by omega) w
            have rl2 := runT_le2 digT s.data.toList (p + d + 1) (by rw [SL.out]; omega)
            rw [SL.out] at rl2
            have FRB : Hid True := trivial
            clear CD C3D CBD C3N CBN
            generalize runT digT (s.data.toList.drop (p + d + 1)) = e1 at *
            have UA : Hid (∀ w, Calls Tryd.prog 32 #[.string s, .int .i64 ((p + d + 1 + e1 : Nat) : Int)] w fun e w' => e = .returned (uaV s.data.toList (p + d + 1 + e1)) ∧ Below w.heap.size w w') := fun w => unitAtR_of s (p + d + 1 + e1) hs (by omega) w
            have eU := CU.out (p + d + 1 + e1) C3X
            have eR := CR.out (p + d + 1 + e1) C3X
            have rt := runT_le2 letT s.data.toList (p + d + 1 + e1) (by rw [SL.out]; omega)
            rw [SL.out] at rt
            unfold uaV at UA
            rw [eU] at UA
            generalize runT letT (s.data.toList.drop (p + d + 1 + e1)) = t at *
            have ER : Hid (cpR l1 = s.data.toList.drop (p + d + 1 + e1 + t)) := eR
            have RE : Hid (cpR l1 = [] ↔ p + d + 1 + e1 + t = s.size) := by
              show _ ↔ _
              rw [eR, List.drop_eq_nil_iff, SL.out]
              omega
            cases hf : fuO (Lib.toUpperA (cpU l1)) 0 with
            | none =>
              have E : Hid (R = none) := by
                show _ = _
                rw [RS.out]
                exact spO_none _ _ _ (NF.out (by rw [FF.out, hf]))
              rw [hf] at UA
              have UAX : Hid (∀ w, Calls Tryd.prog 32 #[.string s, .int .i64 ((p + d + 1 + e1 : Nat) : Int)] w fun e w' => e = .returned (.tuple #[.int .i64 (-1), .int .i64 ((p + d + 1 + e1 : Nat) : Int)]) ∧ Below w.heap.size w w') := UA.out
              clear RS PY NF FF BADN CU CR BD eU eR hf C3X FRB UA ER RE
              go_wp2_with fail
              refine (RUN1.out _ (by first | rfl | omega) _).mono ?_
              rintro e w1 ⟨rfl, rfl⟩
              go_wp2_with (go_at_call 31; refine (NUM0.out _).mono ?_; rintro e w1 ⟨rfl, rfl⟩)
              refine (RUN2.out _ (by first | rfl | omega) _).mono ?_
              rintro e w3 ⟨rfl, rfl⟩
              go_wp2_with fail
              rw [CB.out]
              refine (UAX.out _).mono ?_
              rintro e w4 ⟨rfl, hb4⟩
              have B4 : Hid (Below w.heap.size w w4) := B.out.trans (hb4.mono B.out.size)
              clear hb4
              go_wp2
              go_returns
              exact ⟨by rw [E.out]; rfl, B4.out⟩
            | some i =>
              have i7 : i < 7 := (fuO_bd _ _ _ hf).2
              rw [hf] at UA
              have UAX : Hid (∀ w, Calls Tryd.prog 32 #[.string s, .int .i64 ((p + d + 1 + e1 : Nat) : Int)] w fun e w' => e = .returned (.tuple #[.int .i64 (i : Int), .int .i64 ((p + d + 1 + e1 + t : Nat) : Int)]) ∧ Below w.heap.size w w') := UA.out
              clear UA
              · have ki : k ≤ i := by omega
                have fk : fuO (Lib.toUpperA (cpU l1)) k = some i := by rw [FF.out, hf]; simp only; rw [if_pos ki]
                have UNIT : Hid _ := fun w => unitR_of i i7 w
                have ub := qL_bd i
                have mb := pM_bd i
                by_cases bad : cpB l1 = [] ∨ cpR l1 ≠ []
                · have E : Hid (R = none) := by
                    show _ = _
                    rw [RS.out]
                    exact spO_none _ _ _ (BADN.out ⟨hdot, bad⟩)
                  have bad' : (bl (cpB l1)).size = 0 ∨ p + d + 1 + e1 + t < s.size := by
                    rcases bad with h | h
                    · left; rw [h]; rfl
                    · right
                      have : ¬ p + d + 1 + e1 + t = s.size := fun g => h (RE.out.mpr g)
                      omega
                  clear RS PY NF FF BADN CU CR BD eU eR hf C3X FRB ER RE bad UNIT
                  generalize bl (cpB l1) = pt at *
                  rcases bad' with bad' | bad'
                  all_goals
                    go_wp2_with fail
                    refine (RUN1.out _ (by first | rfl | omega) _).mono ?_
                    rintro e w1 ⟨rfl, rfl⟩
                    go_wp2_with (go_at_call 31; refine (NUM0.out _).mono ?_; rintro e w1 ⟨rfl, rfl⟩)
                    refine (RUN2.out _ (by first | rfl | omega) _).mono ?_
                    rintro e w3 ⟨rfl, rfl⟩
                    go_wp2_with fail
                    rw [CB.out]
                    refine (UAX.out _).mono ?_
                    rintro e w4 ⟨rfl, hb4⟩
                    have B4 : Hid (Below w.heap.size w w4) := B.out.trans (hb4.mono B.out.size)
                    clear hb4
                    go_wp2
                    all_goals
                      go_returns
                      exact ⟨by rw [E.out]; rfl, B4.out⟩
                · have bs0 : cpB l1 ≠ [] := fun h => bad (Or.inl h)
                  have bz : 0 < (bl (cpB l1)).size := by
                    rw [bl_size]
                    exact List.length_pos_iff.mpr bs0
                  have bzB : (((bl (cpB l1)).size : Int) == 0) = false := beq_eq_false_iff_ne.mpr (fun h => by omega)
                  have re : p + d + 1 + e1 + t = s.size := RE.out.mp (by
                    by_cases h : cpR l1 = []
                    · exact h
                    · exact absurd (Or.inr h) bad)
                  have PYi : Hid _ := PY.out i fk (fun h => bad h.2)
                  · have bnd : ¬ (¬ k = 0 ∧ pM i ≤ N) := fun h => h.1 k0
                    rw [if_neg bnd] at PYi
                    have PL : Hid _ := fun w => plusR_of x N (qL i) hx (by omega) (by omega) w
                    unfold plV at PL
                    rcases Nat.lt_or_ge 9223372036854775807 (x + N * qL i) with p1 | p1
                    · have E : Hid (R = none) := by
                        show _ = _
                        rw [RS.out]
                        have q := PYi.out
                        cases g : frO (qL i) (cpB l1) with
                        | none => rw [g] at q; exact spO_none _ _ _ q
                        | some f => rw [g] at q; exact spO_over _ _ _ _ _ _ q (by omega)
                      rw [if_neg (Nat.not_le.mpr p1)] at PL
                      clear RS PY NF FF BADN CU CR BD eU eR hf C3X FRB ER RE PYi bnd
                      generalize bl (cpB l1) = pt at *
                      generalize bl (loN i) = un at *
                      all_goals
                        go_wp2_with fail
                        refine (RUN1.out _ (by first | rfl | omega) _).mono ?_
                        rintro e w1 ⟨rfl, rfl⟩
                        go_wp2_with (go_at_call 31; refine (NUM0.out _).mono ?_; rintro e w1 ⟨rfl, rfl⟩)
                        refine (RUN2.out _ (by first | rfl | omega) _).mono ?_
                        rintro e w3 ⟨rfl, rfl⟩
                        go_wp2_with fail
                        rw [CB.out]
                        refine (UAX.out _).mono ?_
                        rintro e w4 ⟨rfl, hb4⟩
                        have B4 : Hid (Below w.heap.size w w4) := B.out.trans (hb4.mono B.out.size)
                        clear hb4
                        go_wp2_with (first
                          | (go_at_call 33; refine (UNIT.out _).mono ?_; rintro e w5 ⟨rfl, rfl⟩)
                          | (go_at_call 34; refine (PL.out _).mono ?_; rintro e w6 ⟨rfl, rfl⟩))
                        go_returns
                        exact ⟨by rw [E.out]; rfl, B4.out⟩
                    rw [if_pos p1] at PL
                    have FR : Hid (∀ w, Calls Tryd.prog 35 #[.string (bl (cpB l1)), .int .i64 (qL i : Int)] w fun e w' => e = .returned (fcV (qL i) (cpB l1)) ∧ Below w.heap.size w w') := fun w => by
                      have := fractionR_of (bl (cpB l1)) (qL i) (by rw [bl_size]; have := (cp_size l1).2.1; have := LZ.out; unfold maxLen; omega) (by rw [bl_list]; exact BD.out) (qL_day i i7) ub.1 ub.2 w
                      rwa [bl_list] at this
                    unfold fcV at FR
                    cases fr : frO (qL i) (cpB l1) with
                    | none =>
                      have E : Hid (R = none) := by
                        show _ = _
                        have q := PYi.out
                        rw [fr] at q
                        rw [RS.out]
                        exact spO_none _ _ _ q
                      rw [fr] at FR
                      have FRX : Hid (∀ w, Calls Tryd.prog 35 #[.string (bl (cpB l1)), .int .i64 (qL i : Int)] w fun e w' => e = .returned (.tuple #[.int .i64 0, .bool false]) ∧ Below w.heap.size w w') := FR.out
                      clear RS PY NF FF BADN CU CR BD eU eR hf C3X FRB ER RE PYi bnd FR fr bs0
                      generalize bl (cpB l1) = pt at *
                      generalize bl (loN i) = un at *
                      generalize hm : N * qL i = m at *
                      all_goals
                        go_wp2_with fail
                        refine (RUN1.out _ (by first | rfl | omega) _).mono ?_
                        rintro e w1 ⟨rfl, rfl⟩
                        go_wp2_with (go_at_call 31; refine (NUM0.out _).mono ?_; rintro e w1 ⟨rfl, rfl⟩)
                        refine (RUN2.out _ (by first | rfl | omega) _).mono ?_
                        rintro e w3 ⟨rfl, rfl⟩
                        go_wp2_with fail
                        rw [CB.out]
                        refine (UAX.out _).mono ?_
                        rintro e w4 ⟨rfl, hb4⟩
                        have B4 : Hid (Below w.heap.size w w4) := B.out.trans (hb4.mono B.out.size)
                        clear hb4
                        go_wp2_with (first
                          | (go_at_call 33; refine (UNIT.out _).mono ?_; rintro e w5 ⟨rfl, rfl⟩)
                          | (go_at_call 34; refine (PL.out _).mono ?_; rintro e w6 ⟨rfl, rfl⟩))
                        refine (FRX.out _).mono ?_
                        rintro e w7 ⟨rfl, hb7⟩
                        have B7 : Hid (Below w.heap.size w w7) := B4.out.trans (hb7.mono B4.out.size)
                        clear hb7
                        go_wp2
                        go_returns
                        exact ⟨by rw [E.out]; rfl, B7.out⟩
                    | some f =>
                      have fb := frO_lt (qL i) (cpB l1) BD.out f fr
                      rw [fr] at FR
                      have FRX : Hid (∀ w, Calls Tryd.prog 35 #[.string (bl (cpB l1)), .int .i64 (qL i : Int)] w fun e w' => e = .returned (.tuple #[.int .i64 (f : Int), .bool true]) ∧ Below w.heap.size w w') := fun w => by
                        have := FR.out w
                        have z : decide (0 < (cpB l1).length) = true := decide_eq_true (List.length_pos_iff.mpr bs0)
                        simp only [z] at this
                        exact this
                      have PL2 : Hid _ := fun w => plusR_of (x + N * qL i) f 1 p1 (by omega) (by omega) w
                      unfold plV at PL2
                      rw [Nat.mul_one] at PL2
                      have q := PYi.out
                      rw [fr] at q
                      simp only at q
                      by_cases p2 : x + N * qL i + f ≤ 9223372036854775807
                      · rw [if_pos p2] at PL2
                        have NX : Hid (R = spR s.data.toList (p + d + 1 + e1 + t) (x + N * qL i + f) (i + 1)) := by
                          show _ = _
                          rw [ER.out] at q
                          rw [RS.out, show x + N * qL i + f = x + (N * qL i + f) from Nat.add_assoc _ _ _]
                          exact spR_next _ _ _ _ _ _ _ q (show x + (N * qL i + f) ≤ 9223372036854775807 by omega)
                        clear q
                        clear RS PY NF FF BADN CU CR BD eU eR hf C3X FRB ER RE PYi bnd FR fr bs0
                        generalize bl (cpB l1) = pt at *
                        generalize bl (loN i) = un at *
                        generalize hm : N * qL i = m at *
                        all_goals
                          go_wp2_with fail
                          refine (RUN1.out _ (by first | rfl | omega) _).mono ?_
                          rintro e w1 ⟨rfl, rfl⟩
                          go_wp2_with (go_at_call 31; refine (NUM0.out _).mono ?_; rintro e w1 ⟨rfl, rfl⟩)
                          refine (RUN2.out _ (by first | rfl | omega) _).mono ?_
                          rintro e w3 ⟨rfl, rfl⟩
                          go_wp2_with fail
                          rw [CB.out]
                          refine (UAX.out _).mono ?_
                          rintro e w4 ⟨rfl, hb4⟩
                          have B4 : Hid (Below w.heap.size w w4) := B.out.trans (hb4.mono B.out.size)
                          clear hb4
                          go_wp2_with (first
                            | (go_at_call 33; refine (UNIT.out _).mono ?_; rintro e w5 ⟨rfl, rfl⟩)
                            | (go_at_call_of 34 N; refine (PL.out _).mono ?_; rintro e w6 ⟨rfl, rfl⟩))
                          refine (FRX.out _).mono ?_
                          rintro e w7 ⟨rfl, hb7⟩
                          have B7 : Hid (Below w.heap.size w w7) := B4.out.trans (hb7.mono B4.out.size)
                          clear hb7
                          go_wp2_with (go_at_call 34; refine (PL2.out _).mono ?_; rintro e w8 ⟨rfl, rfl⟩)
                          go_roundw
                          case rel =>
                            go_light
                            exact ⟨x + m + f, i + 1, p + d + 1 + e1 + t, by first | rfl | (congr 1; omega), p2, congrArg (Value.int .i64) (by omega), by omega, by first | rfl | exact congrArg (Value.int .i64) (by omega), by omega, by omega, NX, B7.out⟩
                          case measure => simp [intOf]; omega
                      · rw [if_neg p2] at PL2
                        have E : Hid (R = none) := by
                          show _ = _
                          rw [RS.out]
                          exact spO_over _ _ _ _ _ _ q (by omega)
                        clear q
                        clear RS PY NF FF BADN CU CR BD eU eR hf C3X FRB ER RE PYi bnd FR fr bs0
                        generalize bl (cpB l1) = pt at *
                        generalize bl (loN i) = un at *
                        generalize hm : N * qL i = m at *
                        all_goals
                          go_wp2_with fail
                          refine (RUN1.out _ (by first | rfl | omega) _).mono ?_
                          rintro e w1 ⟨rfl, rfl⟩
                          go_wp2_with (go_at_call 31; refine (NUM0.out _).mono ?_; rintro e w1 ⟨rfl, rfl⟩)
                          refine (RUN2.out _ (by first | rfl | omega) _).mono ?_
                          rintro e w3 ⟨rfl, rfl⟩
                          go_wp2_with fail
                          rw [CB.out]
                          refine (UAX.out _).mono ?_
                          rintro e w4 ⟨rfl, hb4⟩
                          have B4 : Hid (Below w.heap.size w w4) := B.out.trans (hb4.mono B.out.size)
                          clear hb4
                          go_wp2_with (first
                            | (go_at_call 33; refine (UNIT.out _).mono ?_; rintro e w5 ⟨rfl, rfl⟩)
                            | (go_at_call_of 34 N; refine (PL.out _).mono ?_; rintro e w6 ⟨rfl, rfl⟩))
                          refine (FRX.out _).mono ?_
                          rintro e w7 ⟨rfl, hb7⟩
                          have B7 : Hid (Below w.heap.size w w7) := B4.out.trans (hb7.mono B4.out.size)
                          clear hb7
                          go_wp2_with (go_at_call 34; refine (PL2.out _).mono ?_; rintro e w8 ⟨rfl, rfl⟩)
                          go_returns
                          exact ⟨by rw [E.out]; rfl, B7.out⟩
      · have k0' : (0 : Int) ≤ (k : Int) - 1 := by omega
        have RS : Hid (R = spO (s.data.toList.drop (p + 1)) x k) := r
        clear r
        have HP : p + 1 ≤ s.size := by omega
        have RUN1 : Hid (∀ z : Int, z = ((p + 1 : Nat) : Int) → ∀ w, Calls Tryd.prog 30 #[.string s, .int .i64 z] w fun e w' => e = .returned (.int .i64 ((p + 1 + runT digT (s.data.toList.drop (p + 1)) : Nat) : Int)) ∧ w' = w) := fun z hz w => by subst hz; exact runR_of s (p + 1) hml HP w
        have rl := runT_le2 digT s.data.toList (p + 1) (by rw [SL.out]; exact HP)
        rw [SL.out] at rl
        have NUM : Hid (∀ w, Calls Tryd.prog 31 #[.string (s.extract (p + 1) (p + 1 + runT digT (s.data.toList.drop (p + 1))))] w fun e w' => e = .returned (.tuple #[.int .i64 (rnN (cpW (s.data.toList.drop (p + 1)))), .bool (rnP (cpW (s.data.toList.drop (p + 1))))]) ∧ w' = w) := fun w => by
          have := numberR_of (s.extract (p + 1) (p + 1 + runT digT (s.data.toList.drop (p + 1)))) w (Nat.le_trans (ext_le _ _ _) hml)
          rwa [cpW_at, rnV_q, ← cpW_at] at this
        have nb := rnN_bd (cpW (s.data.toList.drop (p + 1)))
        have NO : Hid (rnP (cpW (s.data.toList.drop (p + 1))) = false → R = none) := fun h => by rw [RS.out]; exact spO_none _ _ _ (ptO_nonum _ _ h)
        have CD : Hid _ := cpD_at s (p + 1)
        have C3D : Hid _ := cp3_dot s.data.toList (p + 1)
        have CBD : Hid _ := cpB_dot s (p + 1)
        have C3N : Hid _ := cp3_no s.data.toList (p + 1)
        have CBN : Hid _ := cpB_no (s.data.toList.drop (p + 1))
        have CU : Hid (∀ q, _) := fun q => cpU_at s.data.toList (p + 1) q
        have CR : Hid (∀ q, _) := fun q => cpR_at s.data.toList (p + 1) q
        have BD : Hid _ := cpB_dig (s.data.toList.drop (p + 1))
        have NF : Hid _ := ptO_nofu (s.data.toList.drop (p + 1)) k
        have BADN : Hid _ := ptO_bad (s.data.toList.drop (p + 1)) k
        have PY0 : Hid (∀ i, _) := fun i => ptO_yes (s.data.toList.drop (p + 1)) k i
        have FF : Hid _ := fuO_from (Lib.toUpperA (cpU (s.data.toList.drop (p + 1)))) k hk
        have LZ : Hid ((s.data.toList.drop (p + 1)).length ≤ s.size) := by show _ ≤ _; rw [List.length_drop, SL.out]; omega
        generalize hl1 : s.data.toList.drop (p + 1) = l1 at *
        generalize hd1 : runT digT l1 = d at *
        have xd : p + 1 + d ≤ s.size := by omega
        clear hl1 hd1
        cases hp : rnP (cpW l1)
        · have E : Hid (R = none) := NO.out hp
          have NUM0 : Hid (∀ w, Calls Tryd.prog 31 #[.string (s.extract (p + 1) (p + 1 + d))] w fun e w' => e = .returned (.tuple #[.int .i64 (rnN (cpW l1)), .bool false]) ∧ w' = w) := fun w => by have := NUM.out w; rwa [hp] at this
          clear NUM NO CD C3D CBD C3N CBN CU CR BD RS hp NF BADN PY0 FF LZ
          generalize rnN (cpW l1) = n at *
          go_wp2_with fail
          refine (RUN1.out _ (by first | rfl | omega) _).mono ?_
          rintro e w1 ⟨rfl, rfl⟩
          go_wp2_with (go_at_call 31; refine (NUM0.out _).mono ?_; rintro e w1 ⟨rfl, rfl⟩)
          go_returns
          exact ⟨by rw [E.out]; rfl, B.out⟩
        · obtain ⟨N, hN⟩ := Int.eq_ofNat_of_zero_le nb.1
          have NUM0 : Hid (∀ w, Calls Tryd.prog 31 #[.string (s.extract (p + 1) (p + 1 + d))] w fun e w' => e = .returned (.tuple #[.int .i64 (N : Int), .bool true]) ∧ w' = w) := fun w => by have := NUM.out w; rwa [hp, hN] at this
          have PY : Hid (∀ i, fuO (Lib.toUpperA (cpU l1)) k = some i → ¬ (cpD l1 = true ∧ (cpB l1 = [] ∨ cpR l1 ≠ [])) → ptO l1 k = if ¬ k = 0 ∧ pM i ≤ N then none else match frO (qL i) (cpB l1) with | none => none | some f => some (N * qL i + f, i, cpR l1)) := fun i h1 h2 => by
            have := PY0.out i hp h1 h2
            rwa [hN, Int.toNat_natCast] at this
          have Nb : N ≤ 9223372036854775807 := by omega
          clear NUM NO hp nb hN PY0
          cases hdot : cpD l1
          · have C3X := C3N.out hdot
            have FRB : Hid (∀ i, frO (qL i) (cpB l1) = some 0) := fun i => by rw [CBN.out hdot]; exact frO_nil _
            have dotF : (p + 1 + d < s.size ∧ ∃ h : p + 1 + d < s.size, ¬ (s[p + 1 + d].toNat : Int) = 46) ∨ p + 1 + d = s.size := by
              by_cases h : p + 1 + d < s.size
              · left
                refine ⟨h, h, ?_⟩
                have c := CD.out
                rw [hdot, dif_pos h] at c
                exact of_decide_eq_false c.symm
              · right; omega
            clear CD C3D CBD C3N CBN LZ
            rcases dotF with ⟨xlt, h46, n46⟩ | xeq
            · have n46' : ((s[p + 1 + d].toNat : Int) == 46) = false := by simpa using n46
              have xlt' : ((p + 1 + d : Nat) : Int) < s.size := by omega
              have UA : Hid (∀ w, Calls Tryd.prog 32 #[.string s, .int .i64 ((p + 1 + d : Nat) : Int)] w fun e w' => e = .returned (uaV s.data.toList (p + 1 + d)) ∧ Below w.heap.size w w') := fun w => unitAtR_of s (p + 1 + d) hs (by omega) w
              have eU := CU.out (p + 1 + d) C3X
              have eR := CR.out (p + 1 + d) C3X
              have rt := runT_le2 letT s.data.toList (p + 1 + d) (by rw [SL.out]; omega)
              rw [SL.out] at rt
              unfold uaV at UA
              rw [eU] at UA
              generalize runT letT (s.data.toList.drop (p + 1 + d)) = t at *
              have ER : Hid (cpR l1 = s.data.toList.drop (p + 1 + d + t)) := eR
              have RE : Hid (cpR l1 = [] ↔ p + 1 + d + t = s.size) := by
                show _ ↔ _
                rw [eR, List.drop_eq_nil_iff, SL.out]
                omega
              cases hf : fuO (Lib.toUpperA (cpU l1)) 0 with
              | none =>
                have E : Hid (R = none) := by
                  show _ = _
                  rw [RS.out]
                  exact spO_none _ _ _ (NF.out (by rw [FF.out, hf]))
                rw [hf] at UA
                have UAX : Hid (∀ w, Calls Tryd.prog 32 #[.string s, .int .i64 ((p + 1 + d : Nat) : Int)] w fun e w' => e = .returned (.tuple #[.int .i64 (-1), .int .i64 ((p + 1 + d : Nat) : Int)]) ∧ Below w.heap.size w w') := UA.out
                clear RS PY NF FF BADN CU CR BD eU eR hf C3X FRB UA ER RE
                go_wp2_with fail
                refine (RUN1.out _ (by first | rfl | omega) _).mono ?_
                rintro e w1 ⟨rfl, rfl⟩
                go_wp2_with (go_at_call 31; refine (NUM0.out _).mono ?_; rintro e w1 ⟨rfl, rfl⟩)
                refine (UAX.out _).mono ?_
                rintro e w4 ⟨rfl, hb4⟩
                have B4 : Hid (Below w.heap.size w w4) := B.out.trans (hb4.mono B.out.size)
                clear hb4
                go_wp2
                go_returns
                exact ⟨by rw [E.out]; rfl, B4.out⟩
              | some i =>
                have i7 : i < 7 := (fuO_bd _ _ _ hf).2
                rw [hf] at UA
                have UAX : Hid (∀ w, Calls Tryd.prog 32 #[.string s, .int .i64 ((p + 1 + d : Nat) : Int)] w fun e w' => e = .returned (.tuple #[.int .i64 (i : Int), .int .i64 ((p + 1 + d + t : Nat) : Int)]) ∧ Below w.heap.size w w') := UA.out
                clear UA
                by_cases ki : k ≤ i
                · have ki2 : k ≤ i := ki
                  have fk : fuO (Lib.toUpperA (cpU l1)) k = some i := by rw [FF.out, hf]; simp only; rw [if_pos ki]
                  have UNIT : Hid _ := fun w => unitR_of i i7 w
                  have ub := qL_bd i
                  have mb := pM_bd i
                  have PYi : Hid _ := PY.out i fk (fun h => by rw [hdot] at h; cases h.1)
                  by_cases bnd : ¬ k = 0 ∧ pM i ≤ N
                  · have E : Hid (R = none) := by
                      show _ = _
                      rw [RS.out]
                      exact spO_none _ _ _ (by rw [PYi.out, if_pos bnd])
                    obtain ⟨b1, b2⟩ := bnd
                    have b1' : (0 : Int) ≤ (k : Int) - 1 := by omega
                    clear RS PY NF FF BADN CU CR BD eU eR hf C3X FRB ER RE PYi
                    generalize bl (loN i) = un at *
                    go_wp2_with fail
                    refine (RUN1.out _ (by first | rfl | omega) _).mono ?_
                    rintro e w1 ⟨rfl, rfl⟩
                    go_wp2_with (go_at_call 31; refine (NUM0.out _).mono ?_; rintro e w1 ⟨rfl, rfl⟩)
                    refine (UAX.out _).mono ?_
                    rintro e w4 ⟨rfl, hb4⟩
                    have B4 : Hid (Below w.heap.size w w4) := B.out.trans (hb4.mono B.out.size)
                    clear hb4
                    go_wp2_with (go_at_call 33; refine (UNIT.out _).mono ?_; rintro e w5 ⟨rfl, rfl⟩)
                    go_returns
                    exact ⟨by rw [E.out]; rfl, B4.out⟩
                  · have bok2 : (N : Int) < (pM i : Int) := by
                      have : ¬ pM i ≤ N := fun g => bnd ⟨by omega, g⟩
                      omega
                    rw [if_neg bnd] at PYi
                    have PL : Hid _ := fun w => plusR_of x N (qL i) hx (by omega) (by omega) w
                    unfold plV at PL
                    rcases Nat.lt_or_ge 9223372036854775807 (x + N * qL i) with p1 | p1
                    · have E : Hid (R = none) := by
                        show _ = _
                        rw [RS.out]
                        have q := PYi.out
                        rw [FRB.out] at q
                        exact spO_over _ _ _ _ _ _ q (by omega)
                      rw [if_neg (Nat.not_le.mpr p1)] at PL
                      clear RS PY NF FF BADN CU CR BD eU eR hf C3X FRB ER RE PYi bnd
                      generalize bl (loN i) = un at *
                      all_goals
                        go_wp2_with fail
                        refine (RUN1.out _ (by first | rfl | omega) _).mono ?_
                        rintro e w1 ⟨rfl, rfl⟩
                        go_wp2_with (go_at_call 31; refine (NUM0.out _).mono ?_; rintro e w1 ⟨rfl, rfl⟩)
                        refine (UAX.out _).mono ?_
                        rintro e w4 ⟨rfl, hb4⟩
                        have B4 : Hid (Below w.heap.size w w4) := B.out.trans (hb4.mono B.out.size)
                        clear hb4
                        go_wp2_with (first
                          | (go_at_call 33; refine (UNIT.out _).mono ?_; rintro e w5 ⟨rfl, rfl⟩)
                          | (go_at_call 34; refine (PL.out _).mono ?_; rintro e w6 ⟨rfl, rfl⟩))
                        go_returns
                        exact ⟨by rw [E.out]; rfl, B4.out⟩
                    rw [if_pos p1] at PL
                    have NX : Hid (R = spR s.data.toList (p + 1 + d + t) (x + N * qL i) (i + 1)) := by
                      show _ = _
                      have q := PYi.out
                      rw [FRB.out, ER.out] at q
                      simp only [Nat.add_zero] at q
                      rw [RS.out]
                      exact spR_next _ _ _ _ _ _ _ q p1
                    clear RS PY NF FF BADN CU CR BD eU eR hf C3X FRB ER RE PYi bnd
                    generalize bl (loN i) = un at *
                    generalize hm : N * qL i = m at *
                    all_goals
                      go_wp2_with fail
                      refine (RUN1.out _ (by first | rfl | omega) _).mono ?_
                      rintro e w1 ⟨rfl, rfl⟩
                      go_wp2_with (go_at_call 31; refine (NUM0.out _).mono ?_; rintro e w1 ⟨rfl, rfl⟩)
                      refine (UAX.out _).mono ?_
                      rintro e w4 ⟨rfl, hb4⟩
                      have B4 : Hid (Below w.heap.size w w4) := B.out.trans (hb4.mono B.out.size)
                      clear hb4
                      go_wp2_with (first
                        | (go_at_call 33; refine (UNIT.out _).mono ?_; rintro e w5 ⟨rfl, rfl⟩)
                        | (go_at_call 34; refine (PL.out _).mono ?_; rintro e w6 ⟨rfl, rfl⟩))
                      go_roundw
                      case rel =>
                        go_light
                        exact ⟨x + m, i + 1, p + 1 + d + t, by first | rfl | (congr 1; omega), p1, congrArg (Value.int .i64) (by omega), by omega, by first | rfl | exact congrArg (Value.int .i64) (by omega), by omega, by omega, NX, B4.out⟩
                      case measure => simp [intOf]; omega
                · have E : Hid (R = none) := by
                    show _ = _
                    rw [RS.out]
                    exact spO_none _ _ _ (NF.out (by rw [FF.out, hf]; simp only; rw [if_neg ki]))
                  have ki' : (i : Int) ≤ (k : Int) - 1 := by omega
                  clear RS PY NF FF BADN CU CR BD eU eR hf C3X FRB ER RE
                  go_wp2_with fail
                  refine (RUN1.out _ (by first | rfl | omega) _).mono ?_
                  rintro e w1 ⟨rfl, rfl⟩
                  go_wp2_with (go_at_call 31; refine (NUM0.out _).mono ?_; rintro e w1 ⟨rfl, rfl⟩)
                  refine (UAX.out _).mono ?_
                  rintro e w4 ⟨rfl, hb4⟩
                  have B4 : Hid (Below w.heap.size w w4) := B.out.trans (hb4.mono B.out.size)
                  clear hb4
                  go_wp2
                  go_returns
                  exact ⟨by rw [E.out]; rfl, B4.out⟩
            · have xge : ¬ ((p + 1 + d : Nat) : Int) < s.size := by omega
              clear xeq
              have UA : Hid (∀ w, Calls Tryd.prog 32 #[.string s, .int .i64 ((p + 1 + d : Nat) : Int)] w fun e w' => e = .returned (uaV s.data.toList (p + 1 + d)) ∧ Below w.heap.size w w') := fun w => unitAtR_of s (p + 1 + d) hs (by omega) w
              have eU := CU.out (p + 1 + d) C3X
              have eR := CR.out (p + 1 + d) C3X
              have rt := runT_le2 letT s.data.toList (p + 1 + d) (by rw [SL.out]; omega)
              rw [SL.out] at rt
              unfold uaV at UA
              rw [eU] at UA
              generalize runT letT (s.data.toList.drop (p + 1 + d)) = t at *
              have ER : Hid (cpR l1 = s.data.toList.drop (p + 1 + d + t)) := eR
              have RE : Hid (cpR l1 = [] ↔ p + 1 + d + t = s.size) := by
                show _ ↔ _
                rw [eR, List.drop_eq_nil_iff, SL.out]
                omega
              cases hf : fuO (Lib.toUpperA (cpU l1)) 0 with
              | none =>
                have E : Hid (R = none) := by
                  show _ = _
                  rw [RS.out]
                  exact spO_none _ _ _ (NF.out (by rw [FF.out, hf]))
                rw [hf] at UA
                have UAX : Hid (∀ w, Calls Tryd.prog 32 #[.string s, .int .i64 ((p + 1 + d : Nat) : Int)] w fun e w' => e = .returned (.tuple #[.int .i64 (-1), .int .i64 ((p + 1 + d : Nat) : Int)]) ∧ Below w.heap.size w w') := UA.out
                clear RS PY NF FF BADN CU CR BD eU eR hf C3X FRB UA ER RE
                go_wp2_with fail
                refine (RUN1.out _ (by first | rfl | omega) _).mono ?_
                rintro e w1 ⟨rfl, rfl⟩
                go_wp2_with (go_at_call 31; refine (NUM0.out _).mono ?_; rintro e w1 ⟨rfl, rfl⟩)
                refine (UAX.out _).mono ?_
                rintro e w4 ⟨rfl, hb4⟩
                have B4 : Hid (Below w.heap.size w w4) := B.out.trans (hb4.mono B.out.size)
                clear hb4
                go_wp2
                go_returns
                exact ⟨by rw [E.out]; rfl, B4.out⟩
              | some i =>
                have i7 : i < 7 := (fuO_bd _ _ _ hf).2
                rw [hf] at UA
                have UAX : Hid (∀ w, Calls Tryd.prog 32 #[.string s, .int .i64 ((p + 1 + d : Nat) : Int)] w fun e w' => e = .returned (.tuple #[.int .i64 (i : Int), .int .i64 ((p + 1 + d + t : Nat) : Int)]) ∧ Below w.heap.size w w') := UA.out
                clear UA
                by_cases ki : k ≤ i
                · have ki2 : k ≤ i := ki
                  have fk : fuO (Lib.toUpperA (cpU l1)) k = some i := by rw [FF.out, hf]; simp only; rw [if_pos ki]
                  have UNIT : Hid _ := fun w => unitR_of i i7 w
                  have ub := qL_bd i
                  have mb := pM_bd i
                  have PYi : Hid _ := PY.out i fk (fun h => by rw [hdot] at h; cases h.1)
                  by_cases bnd : ¬ k = 0 ∧ pM i ≤ N
                  · have E : Hid (R = none) := by
                      show _ = _
                      rw [RS.out]
                      exact spO_none _ _ _ (by rw [PYi.out, if_pos bnd])
                    obtain ⟨b1, b2⟩ := bnd
                    have b1' : (0 : Int) ≤ (k : Int) - 1 := by omega
                    clear RS PY NF FF BADN CU CR BD eU eR hf C3X FRB ER RE PYi
                    generalize bl (loN i) = un at *
                    go_wp2_with fail
                    refine (RUN1.out _ (by first | rfl | omega) _).mono ?_
                    rintro e w1 ⟨rfl, rfl⟩
                    go_wp2_with (go_at_call 31; refine (NUM0.out _).mono ?_; rintro e w1 ⟨rfl, rfl⟩)
                    refine (UAX.out _).mono ?_
                    rintro e w4 ⟨rfl, hb4⟩
                    have B4 : Hid (Below w.heap.size w w4) := B.out.trans (hb4.mono B.out.size)
                    clear hb4
                    go_wp2_with (go_at_call 33; refine (UNIT.out _).mono ?_; rintro e w5 ⟨rfl, rfl⟩)
                    go_returns
                    exact ⟨by rw [E.out]; rfl, B4.out⟩
                  · have bok2 : (N : Int) < (pM i : Int) := by
                      have : ¬ pM i ≤ N := fun g => bnd ⟨by omega, g⟩
                      omega
                    rw [if_neg bnd] at PYi
                    have PL : Hid _ := fun w => plusR_of x N (qL i) hx (by omega) (by omega) w
                    unfold plV at PL
                    rcases Nat.lt_or_ge 9223372036854775807 (x + N * qL i) with p1 | p1
                    · have E : Hid (R = none) := by
                        show _ = _
                        rw [RS.out]
                        have q := PYi.out
                        rw [FRB.out] at q
                        exact spO_over _ _ _ _ _ _ q (by omega)
                      rw [if_neg (Nat.not_le.mpr p1)] at PL
                      clear RS PY NF FF BADN CU CR BD eU eR hf C3X FRB ER RE PYi bnd
                      generalize bl (loN i) = un at *
                      all_goals
                        go_wp2_with fail
                        refine (RUN1.out _ (by first | rfl | omega) _).mono ?_
                        rintro e w1 ⟨rfl, rfl⟩
                        go_wp2_with (go_at_call 31; refine (NUM0.out _).mono ?_; rintro e w1 ⟨rfl, rfl⟩)
                        refine (UAX.out _).mono ?_
                        rintro e w4 ⟨rfl, hb4⟩
                        have B4 : Hid (Below w.heap.size w w4) := B.out.trans (hb4.mono B.out.size)
                        clear hb4
                        go_wp2_with (first
                          | (go_at_call 33; refine (UNIT.out _).mono ?_; rintro e w5 ⟨rfl, rfl⟩)
                          | (go_at_call 34; refine (PL.out _).mono ?_; rintro e w6 ⟨rfl, rfl⟩))
                        go_returns
                        exact ⟨by rw [E.out]; rfl, B4.out⟩
                    rw [if_pos p1] at PL
                    have NX : Hid (R = spR s.data.toList (p + 1 + d + t) (x + N * qL i) (i + 1)) := by
                      show _ = _
                      have q := PYi.out
                      rw [FRB.out, ER.out] at q
                      simp only [Nat.add_zero] at q
                      rw [RS.out]
                      exact spR_next _ _ _ _ _ _ _ q p1
                    clear RS PY NF FF BADN CU CR BD eU eR hf C3X FRB ER RE PYi bnd
                    generalize bl (loN i) = un at *
                    generalize hm : N * qL i = m at *
                    all_goals
                      go_wp2_with fail
                      refine (RUN1.out _ (by first | rfl | omega) _).mono ?_
                      rintro e w1 ⟨rfl, rfl⟩
                      go_wp2_with (go_at_call 31; refine (NUM0.out _).mono ?_; rintro e w1 ⟨rfl, rfl⟩)
                      refine (UAX.out _).mono ?_
                      rintro e w4 ⟨rfl, hb4⟩
                      have B4 : Hid (Below w.heap.size w w4) := B.out.trans (hb4.mono B.out.size)
                      clear hb4
                      go_wp2_with (first
                        | (go_at_call 33; refine (UNIT.out _).mono ?_; rintro e w5 ⟨rfl, rfl⟩)
                        | (go_at_call 34; refine (PL.out _).mono ?_; rintro e w6 ⟨rfl, rfl⟩))
                      go_roundw
                      case rel =>
                        go_light
                        exact ⟨x + m, i + 1, p + 1 + d + t, by first | rfl | (congr 1; omega), p1, congrArg (Value.int .i64) (by omega), by omega, by first | rfl | exact congrArg (Value.int .i64) (by omega), by omega, by omega, NX, B4.out⟩
                      case measure => simp [intOf]; omega
                · have E : Hid (R = none) := by
                    show _ = _
                    rw [RS.out]
                    exact spO_none _ _ _ (NF.out (by rw [FF.out, hf]; simp only; rw [if_neg ki]))
                  have ki' : (i : Int) ≤ (k : Int) - 1 := by omega
                  clear RS PY NF FF BADN CU CR BD eU eR hf C3X FRB ER RE
                  go_wp2_with fail
                  refine (RUN1.out _ (by first | rfl | omega) _).mono ?_
                  rintro e w1 ⟨rfl, rfl⟩
                  go_wp2_with (go_at_call 31; refine (NUM0.out _).mono ?_; rintro e w1 ⟨rfl, rfl⟩)
                  refine (UAX.out _).mono ?_
                  rintro e w4 ⟨rfl, hb4⟩
                  have B4 : Hid (Below w.heap.size w w4) := B.out.trans (hb4.mono B.out.size)
                  clear hb4
                  go_wp2
                  go_returns
                  exact ⟨by rw [E.out]; rfl, B4.out⟩
          · have h46 : ∃ h : p + 1 + d < s.size, (s[p + 1 + d].toNat : Int) = 46 := by
              have c := CD.out
              rw [hdot] at c
              by_cases h : p + 1 + d < s.size
              · rw [dif_pos h] at c
                exact ⟨h, of_decide_eq_true c.symm⟩
              · rw [dif_neg h] at c; cases c
            obtain ⟨xlt, x46⟩ := h46
            have xlt' : ((p + 1 + d : Nat) : Int) < s.size := by omega
            have C3X := C3D.out hdot
            have CB : Hid _ := CBD.out hdot
            have RUN2 : Hid (∀ z : Int, z = ((p + 1 + d + 1 : Nat) : Int) → ∀ w, Calls Tryd.prog 30 #[.string s, .int .i64 z] w fun e w' => e = .returned (.int .i64 ((p + 1 + d + 1 + runT digT (s.data.toList.drop (p + 1 + d + 1)) : Nat) : Int)) ∧ w' = w) := fun z hz w => by subst hz; exact runR_of s (p + 1 + d + 1) hml (by omega) w
            have rl2 := runT_le2 digT s.data.toList (p + 1 + d + 1) (by rw [SL.out]; omega)
            rw [SL.out] at rl2
            have FRB : Hid True := trivial
            clear CD C3D CBD C3N CBN
            generalize runT digT (s.data.toList.drop (p + 1 + d + 1)) = e1 at *
            have UA : Hid (∀ w, Calls Tryd.prog 32 #[.string s, .int .i64 ((p + 1 + d + 1 + e1 : Nat) : Int)] w fun e w' => e = .returned (uaV s.data.toList (p + 1 + d + 1 + e1)) ∧ Below w.heap.size w w') := fun w => unitAtR_of s (p + 1 + d + 1 + e1) hs (by omega) w
            have eU := CU.out (p + 1 + d + 1 + e1) C3X
            have eR := CR.out (p + 1 + d + 1 + e1) C3X
            have rt := runT_le2 letT s.data.toList (p + 1 + d + 1 + e1) (by rw [SL.out]; omega)
            rw [SL.out] at rt
            unfold uaV at UA
            rw [eU] at UA
            generalize runT letT (s.data.toList.drop (p + 1 + d + 1 + e1)) = t at *
            have ER : Hid (cpR l1 = s.data.toList.drop (p + 1 + d + 1 + e1 + t)) := eR
            have RE : Hid (cpR l1 = [] ↔ p + 1 + d + 1 + e1 + t = s.size) := by
              show _ ↔ _
              rw [eR, List.drop_eq_nil_iff, SL.out]
              omega
            cases hf : fuO (Lib.toUpperA (cpU l1)) 0 with
            | none =>
              have E : Hid (R = none) := by
                show _ = _
                rw [RS.out]
                exact spO_none _ _ _ (NF.out (by rw [FF.out, hf]))
              rw [hf] at UA
              have UAX : Hid (∀ w, Calls Tryd.prog 32 #[.string s, .int .i64 ((p + 1 + d + 1 + e1 : Nat) : Int)] w fun e w' => e = .returned (.tuple #[.int .i64 (-1), .int .i64 ((p + 1 + d + 1 + e1 : Nat) : Int)]) ∧ Below w.heap.size w w') := UA.out
              clear RS PY NF FF BADN CU CR BD eU eR hf C3X FRB UA ER RE
              go_wp2_with fail
              refine (RUN1.out _ (by first | rfl | omega) _).mono ?_
              rintro e w1 ⟨rfl, rfl⟩
              go_wp2_with (go_at_call 31; refine (NUM0.out _).mono ?_; rintro e w1 ⟨rfl, rfl⟩)
              refine (RUN2.out _ (by first | rfl | omega) _).mono ?_
              rintro e w3 ⟨rfl, rfl⟩
              go_wp2_with fail
              rw [CB.out]
              refine (UAX.out _).mono ?_
              rintro e w4 ⟨rfl, hb4⟩
              have B4 : Hid (Below w.heap.size w w4) := B.out.trans (hb4.mono B.out.size)
              clear hb4
              go_wp2
              go_returns
              exact ⟨by rw [E.out]; rfl, B4.out⟩
            | some i =>
              have i7 : i < 7 := (fuO_bd _ _ _ hf).2
              rw [hf] at UA
              have UAX : Hid (∀ w, Calls Tryd.prog 32 #[.string s, .int .i64 ((p + 1 + d + 1 + e1 : Nat) : Int)] w fun e w' => e = .returned (.tuple #[.int .i64 (i : Int), .int .i64 ((p + 1 + d + 1 + e1 + t : Nat) : Int)]) ∧ Below w.heap.size w w') := UA.out
              clear UA
              by_cases ki : k ≤ i
              · have ki2 : k ≤ i := ki
                have fk : fuO (Lib.toUpperA (cpU l1)) k = some i := by rw [FF.out, hf]; simp only; rw [if_pos ki]
                have UNIT : Hid _ := fun w => unitR_of i i7 w
                have ub := qL_bd i
                have mb := pM_bd i
                by_cases bad : cpB l1 = [] ∨ cpR l1 ≠ []
                · have E : Hid (R = none) := by
                    show _ = _
                    rw [RS.out]
                    exact spO_none _ _ _ (BADN.out ⟨hdot, bad⟩)
                  have bad' : (bl (cpB l1)).size = 0 ∨ p + 1 + d + 1 + e1 + t < s.size := by
                    rcases bad with h | h
                    · left; rw [h]; rfl
                    · right
                      have : ¬ p + 1 + d + 1 + e1 + t = s.size := fun g => h (RE.out.mpr g)
                      omega
                  clear RS PY NF FF BADN CU CR BD eU eR hf C3X FRB ER RE bad UNIT
                  generalize bl (cpB l1) = pt at *
                  rcases bad' with bad' | bad'
                  all_goals
                    go_wp2_with fail
                    refine (RUN1.out _ (by first | rfl | omega) _).mono ?_
                    rintro e w1 ⟨rfl, rfl⟩
                    go_wp2_with (go_at_call 31; refine (NUM0.out _).mono ?_; rintro e w1 ⟨rfl, rfl⟩)
                    refine (RUN2.out _ (by first | rfl | omega) _).mono ?_
                    rintro e w3 ⟨rfl, rfl⟩
                    go_wp2_with fail
                    rw [CB.out]
                    refine (UAX.out _).mono ?_
                    rintro e w4 ⟨rfl, hb4⟩
                    have B4 : Hid (Below w.heap.size w w4) := B.out.trans (hb4.mono B.out.size)
                    clear hb4
                    go_wp2
                    all_goals
                      go_returns
                      exact ⟨by rw [E.out]; rfl, B4.out⟩
                · have bs0 : cpB l1 ≠ [] := fun h => bad (Or.inl h)
                  have bz : 0 < (bl (cpB l1)).size := by
                    rw [bl_size]
                    exact List.length_pos_iff.mpr bs0
                  have bzB : (((bl (cpB l1)).size : Int) == 0) = false := beq_eq_false_iff_ne.mpr (fun h => by omega)
                  have re : p + 1 + d + 1 + e1 + t = s.size := RE.out.mp (by
                    by_cases h : cpR l1 = []
                    · exact h
                    · exact absurd (Or.inr h) bad)
                  have PYi : Hid _ := PY.out i fk (fun h => bad h.2)
                  by_cases bnd : ¬ k = 0 ∧ pM i ≤ N
                  · have E : Hid (R = none) := by
                      show _ = _
                      rw [RS.out]
                      exact spO_none _ _ _ (by rw [PYi.out, if_pos bnd])
                    obtain ⟨b1, b2⟩ := bnd
                    have b1' : (0 : Int) ≤ (k : Int) - 1 := by omega
                    clear RS PY NF FF BADN CU CR BD eU eR hf C3X FRB ER RE PYi
                    generalize bl (cpB l1) = pt at *
                    generalize bl (loN i) = un at *
                    go_wp2_with fail
                    refine (RUN1.out _ (by first | rfl | omega) _).mono ?_
                    rintro e w1 ⟨rfl, rfl⟩
                    go_wp2_with (go_at_call 31; refine (NUM0.out _).mono ?_; rintro e w1 ⟨rfl, rfl⟩)
                    refine (RUN2.out _ (by first | rfl | omega) _).mono ?_
                    rintro e w3 ⟨rfl, rfl⟩
                    go_wp2_with fail
                    rw [CB.out]
                    refine (UAX.out _).mono ?_
                    rintro e w4 ⟨rfl, hb4⟩
                    have B4 : Hid (Below w.heap.size w w4) := B.out.trans (hb4.mono B.out.size)
                    clear hb4
                    go_wp2_with (go_at_call 33; refine (UNIT.out _).mono ?_; rintro e w5 ⟨rfl, rfl⟩)
                    go_returns
                    exact ⟨by rw [E.out]; rfl, B4.out⟩
                  · have bok2 : (N : Int) < (pM i : Int) := by
                      have : ¬ pM i ≤ N := fun g => bnd ⟨by omega, g⟩
                      omega
                    rw [if_neg bnd] at PYi
                    have PL : Hid _ := fun w => plusR_of x N (qL i) hx (by omega) (by omega) w
                    unfold plV at PL
                    rcases Nat.lt_or_ge 9223372036854775807 (x + N * qL i) with p1 | p1
                    · have E : Hid (R = none) := by
                        show _ = _
                        rw [RS.out]
                        have q := PYi.out
                        cases g : frO (qL i) (cpB l1) with
                        | none => rw [g] at q; exact spO_none _ _ _ q
                        | some f => rw [g] at q; exact spO_over _ _ _ _ _ _ q (by omega)
                      rw [if_neg (Nat.not_le.mpr p1)] at PL
                      clear RS PY NF FF BADN CU CR BD eU eR hf C3X FRB ER RE PYi bnd
                      generalize bl (cpB l1) = pt at *
                      generalize bl (loN i) = un at *
                      all_goals
                        go_wp2_with fail
                        refine (RUN1.out _ (by first | rfl | omega) _).mono ?_
                        rintro e w1 ⟨rfl, rfl⟩
                        go_wp2_with (go_at_call 31; refine (NUM0.out _).mono ?_; rintro e w1 ⟨rfl, rfl⟩)
                        refine (RUN2.out _ (by first | rfl | omega) _).mono ?_
                        rintro e w3 ⟨rfl, rfl⟩
                        go_wp2_with fail
                        rw [CB.out]
                        refine (UAX.out _).mono ?_
                        rintro e w4 ⟨rfl, hb4⟩
                        have B4 : Hid (Below w.heap.size w w4) := B.out.trans (hb4.mono B.out.size)
                        clear hb4
                        go_wp2_with (first
                          | (go_at_call 33; refine (UNIT.out _).mono ?_; rintro e w5 ⟨rfl, rfl⟩)
                          | (go_at_call 34; refine (PL.out _).mono ?_; rintro e w6 ⟨rfl, rfl⟩))
                        go_returns
                        exact ⟨by rw [E.out]; rfl, B4.out⟩
                    rw [if_pos p1] at PL
                    have FR : Hid (∀ w, Calls Tryd.prog 35 #[.string (bl (cpB l1)), .int .i64 (qL i : Int)] w fun e w' => e = .returned (fcV (qL i) (cpB l1)) ∧ Below w.heap.size w w') := fun w => by
                      have := fractionR_of (bl (cpB l1)) (qL i) (by rw [bl_size]; have := (cp_size l1).2.1; have := LZ.out; unfold maxLen; omega) (by rw [bl_list]; exact BD.out) (qL_day i i7) ub.1 ub.2 w
                      rwa [bl_list] at this
                    unfold fcV at FR
                    cases fr : frO (qL i) (cpB l1) with
                    | none =>
                      have E : Hid (R = none) := by
                        show _ = _
                        have q := PYi.out
                        rw [fr] at q
                        rw [RS.out]
                        exact spO_none _ _ _ q
                      rw [fr] at FR
                      have FRX : Hid (∀ w, Calls Tryd.prog 35 #[.string (bl (cpB l1)), .int .i64 (qL i : Int)] w fun e w' => e = .returned (.tuple #[.int .i64 0, .bool false]) ∧ Below w.heap.size w w') := FR.out
                      clear RS PY NF FF BADN CU CR BD eU eR hf C3X FRB ER RE PYi bnd FR fr bs0
                      generalize bl (cpB l1) = pt at *
                      generalize bl (loN i) = un at *
                      generalize hm : N * qL i = m at *
                      all_goals
                        go_wp2_with fail
                        refine (RUN1.out _ (by first | rfl | omega) _).mono ?_
                        rintro e w1 ⟨rfl, rfl⟩
                        go_wp2_with (go_at_call 31; refine (NUM0.out _).mono ?_; rintro e w1 ⟨rfl, rfl⟩)
                        refine (RUN2.out _ (by first | rfl | omega) _).mono ?_
                        rintro e w3 ⟨rfl, rfl⟩
                        go_wp2_with fail
                        rw [CB.out]
                        refine (UAX.out _).mono ?_
                        rintro e w4 ⟨rfl, hb4⟩
                        have B4 : Hid (Below w.heap.size w w4) := B.out.trans (hb4.mono B.out.size)
                        clear hb4
                        go_wp2_with (first
                          | (go_at_call 33; refine (UNIT.out _).mono ?_; rintro e w5 ⟨rfl, rfl⟩)
                          | (go_at_call 34; refine (PL.out _).mono ?_; rintro e w6 ⟨rfl, rfl⟩))
                        refine (FRX.out _).mono ?_
                        rintro e w7 ⟨rfl, hb7⟩
                        have B7 : Hid (Below w.heap.size w w7) := B4.out.trans (hb7.mono B4.out.size)
                        clear hb7
                        go_wp2
                        go_returns
                        exact ⟨by rw [E.out]; rfl, B7.out⟩
                    | some f =>
                      have fb := frO_lt (qL i) (cpB l1) BD.out f fr
                      rw [fr] at FR
                      have FRX : Hid (∀ w, Calls Tryd.prog 35 #[.string (bl (cpB l1)), .int .i64 (qL i : Int)] w fun e w' => e = .returned (.tuple #[.int .i64 (f : Int), .bool true]) ∧ Below w.heap.size w w') := fun w => by
                        have := FR.out w
                        have z : decide (0 < (cpB l1).length) = true := decide_eq_true (List.length_pos_iff.mpr bs0)
                        simp only [z] at this
                        exact this
                      have PL2 : Hid _ := fun w => plusR_of (x + N * qL i) f 1 p1 (by omega) (by omega) w
                      unfold plV at PL2
                      rw [Nat.mul_one] at PL2
                      have q := PYi.out
                      rw [fr] at q
                      simp only at q
                      by_cases p2 : x + N * qL i + f ≤ 9223372036854775807
                      · rw [if_pos p2] at PL2
                        have NX : Hid (R = spR s.data.toList (p + 1 + d + 1 + e1 + t) (x + N * qL i + f) (i + 1)) := by
                          show _ = _
                          rw [ER.out] at q
                          rw [RS.out, show x + N * qL i + f = x + (N * qL i + f) from Nat.add_assoc _ _ _]
                          exact spR_next _ _ _ _ _ _ _ q (show x + (N * qL i + f) ≤ 9223372036854775807 by omega)
                        clear q
                        clear RS PY NF FF BADN CU CR BD eU eR hf C3X FRB ER RE PYi bnd FR fr bs0
                        generalize bl (cpB l1) = pt at *
                        generalize bl (loN i) = un at *
                        generalize hm : N * qL i = m at *
                        all_goals
                          go_wp2_with fail
                          refine (RUN1.out _ (by first | rfl | omega) _).mono ?_
                          rintro e w1 ⟨rfl, rfl⟩
                          go_wp2_with (go_at_call 31; refine (NUM0.out _).mono ?_; rintro e w1 ⟨rfl, rfl⟩)
                          refine (RUN2.out _ (by first | rfl | omega) _).mono ?_
                          rintro e w3 ⟨rfl, rfl⟩
                          go_wp2_with fail
                          rw [CB.out]
                          refine (UAX.out _).mono ?_
                          rintro e w4 ⟨rfl, hb4⟩
                          have B4 : Hid (Below w.heap.size w w4) := B.out.trans (hb4.mono B.out.size)
                          clear hb4
                          go_wp2_with (first
                            | (go_at_call 33; refine (UNIT.out _).mono ?_; rintro e w5 ⟨rfl, rfl⟩)
                            | (go_at_call_of 34 N; refine (PL.out _).mono ?_; rintro e w6 ⟨rfl, rfl⟩))
                          refine (FRX.out _).mono ?_
                          rintro e w7 ⟨rfl, hb7⟩
                          have B7 : Hid (Below w.heap.size w w7) := B4.out.trans (hb7.mono B4.out.size)
                          clear hb7
                          go_wp2_with (go_at_call 34; refine (PL2.out _).mono ?_; rintro e w8 ⟨rfl, rfl⟩)
                          go_roundw
                          case rel =>
                            go_light
                            exact ⟨x + m + f, i + 1, p + 1 + d + 1 + e1 + t, by first | rfl | (congr 1; omega), p2, congrArg (Value.int .i64) (by omega), by omega, by first | rfl | exact congrArg (Value.int .i64) (by omega), by omega, by omega, NX, B7.out⟩
                          case measure => simp [intOf]; omega
                      · rw [if_neg p2] at PL2
                        have E : Hid (R = none) := by
                          show _ = _
                          rw [RS.out]
                          exact spO_over _ _ _ _ _ _ q (by omega)
                        clear q
                        clear RS PY NF FF BADN CU CR BD eU eR hf C3X FRB ER RE PYi bnd FR fr bs0
                        generalize bl (cpB l1) = pt at *
                        generalize bl (loN i) = un at *
                        generalize hm : N * qL i = m at *
                        all_goals
                          go_wp2_with fail
                          refine (RUN1.out _ (by first | rfl | omega) _).mono ?_
                          rintro e w1 ⟨rfl, rfl⟩
                          go_wp2_with (go_at_call 31; refine (NUM0.out _).mono ?_; rintro e w1 ⟨rfl, rfl⟩)
                          refine (RUN2.out _ (by first | rfl | omega) _).mono ?_
                          rintro e w3 ⟨rfl, rfl⟩
                          go_wp2_with fail
                          rw [CB.out]
                          refine (UAX.out _).mono ?_
                          rintro e w4 ⟨rfl, hb4⟩
                          have B4 : Hid (Below w.heap.size w w4) := B.out.trans (hb4.mono B.out.size)
                          clear hb4
                          go_wp2_with (first
                            | (go_at_call 33; refine (UNIT.out _).mono ?_; rintro e w5 ⟨rfl, rfl⟩)
                            | (go_at_call_of 34 N; refine (PL.out _).mono ?_; rintro e w6 ⟨rfl, rfl⟩))
                          refine (FRX.out _).mono ?_
                          rintro e w7 ⟨rfl, hb7⟩
                          have B7 : Hid (Below w.heap.size w w7) := B4.out.trans (hb7.mono B4.out.size)
                          clear hb7
                          go_wp2_with (go_at_call 34; refine (PL2.out _).mono ?_; rintro e w8 ⟨rfl, rfl⟩)
                          go_returns
                          exact ⟨by rw [E.out]; rfl, B7.out⟩
              · have E : Hid (R = none) := by
                  show _ = _
                  rw [RS.out]
                  exact spO_none _ _ _ (NF.out (by rw [FF.out, hf]; simp only; rw [if_neg ki]))
                have ki' : (i : Int) ≤ (k : Int) - 1 := by omega
                clear RS PY NF FF BADN CU CR BD eU eR hf C3X FRB ER RE
                generalize bl (cpB l1) = pt at *
                go_wp2_with fail
                refine (RUN1.out _ (by first | rfl | omega) _).mono ?_
                rintro e w1 ⟨rfl, rfl⟩
                go_wp2_with (go_at_call 31; refine (NUM0.out _).mono ?_; rintro e w1 ⟨rfl, rfl⟩)
                refine (RUN2.out _ (by first | rfl | omega) _).mono ?_
                rintro e w3 ⟨rfl, rfl⟩
                go_wp2_with fail
                rw [CB.out]
                refine (UAX.out _).mono ?_
                rintro e w4 ⟨rfl, hb4⟩
                have B4 : Hid (Below w.heap.size w w4) := B.out.trans (hb4.mono B.out.size)
                clear hb4
                go_wp2
                go_returns
                exact ⟨by rw [E.out]; rfl, B4.out⟩
      · have k0' : (0 : Int) ≤ (k : Int) - 1 := by omega
        have c95' : ((s[p].toNat : Int) == 95) = false := by simpa using c95
        have RS : Hid (R = spO (s.data.toList.drop (p)) x k) := r
        clear r
        have HP : p ≤ s.size := by omega
        have RUN1 : Hid (∀ z : Int, z = ((p : Nat) : Int) → ∀ w, Calls Tryd.prog 30 #[.string s, .int .i64 z] w fun e w' => e = .returned (.int .i64 ((p + runT digT (s.data.toList.drop (p)) : Nat) : Int)) ∧ w' = w) := fun z hz w => by subst hz; exact runR_of s (p) hml HP w
        have rl := runT_le2 digT s.data.toList (p) (by rw [SL.out]; exact HP)
        rw [SL.out] at rl
        have NUM : Hid (∀ w, Calls Tryd.prog 31 #[.string (s.extract (p) (p + runT digT (s.data.toList.drop (p))))] w fun e w' => e = .returned (.tuple #[.int .i64 (rnN (cpW (s.data.toList.drop (p)))), .bool (rnP (cpW (s.data.toList.drop (p))))]) ∧ w' = w) := fun w => by
          have := numberR_of (s.extract (p) (p + runT digT (s.data.toList.drop (p)))) w (Nat.le_trans (ext_le _ _ _) hml)
          rwa [cpW_at, rnV_q, ← cpW_at] at this
        have nb := rnN_bd (cpW (s.data.toList.drop (p)))
        have NO : Hid (rnP (cpW (s.data.toList.drop (p))) = false → R = none) := fun h => by rw [RS.out]; exact spO_none _ _ _ (ptO_nonum _ _ h)
        have CD : Hid _ := cpD_at s (p)
        have C3D : Hid _ := cp3_dot s.data.toList (p)
        have CBD : Hid _ := cpB_dot s (p)
        have C3N : Hid _ := cp3_no s.data.toList (p)
        have CBN : Hid _ := cpB_no (s.data.toList.drop (p))
        have CU : Hid (∀ q, _) := fun q => cpU_at s.data.toList (p) q
        have CR : Hid (∀ q, _) := fun q => cpR_at s.data.toList (p) q
        have BD : Hid _ := cpB_dig (s.data.toList.drop (p))
        have NF : Hid _ := ptO_nofu (s.data.toList.drop (p)) k
        have BADN : Hid _ := ptO_bad (s.data.toList.drop (p)) k
        have PY0 : Hid (∀ i, _) := fun i => ptO_yes (s.data.toList.drop (p)) k i
        have FF : Hid _ := fuO_from (Lib.toUpperA (cpU (s.data.toList.drop (p)))) k hk
        have LZ : Hid ((s.data.toList.drop (p)).length ≤ s.size) := by show _ ≤ _; rw [List.length_drop, SL.out]; omega
        generalize hl1 : s.data.toList.drop (p) = l1 at *
        generalize hd1 : runT digT l1 = d at *
        have xd : p + d ≤ s.size := by omega
        clear hl1 hd1
        cases hp : rnP (cpW l1)
        · have E : Hid (R = none) := NO.out hp
          have NUM0 : Hid (∀ w, Calls Tryd.prog 31 #[.string (s.extract (p) (p + d))] w fun e w' => e = .returned (.tuple #[.int .i64 (rnN (cpW l1)), .bool false]) ∧ w' = w) := fun w => by have := NUM.out w; rwa [hp] at this
          clear NUM NO CD C3D CBD C3N CBN CU CR BD RS hp NF BADN PY0 FF LZ
          generalize rnN (cpW l1) = n at *
          go_wp2_with fail
          refine (RUN1.out _ (by first | rfl | omega) _).mono ?_
          rintro e w1 ⟨rfl, rfl⟩
          go_wp2_with (go_at_call 31; refine (NUM0.out _).mono ?_; rintro e w1 ⟨rfl, rfl⟩)
          go_returns
          exact ⟨by rw [E.out]; rfl, B.out⟩
        · obtain ⟨N, hN⟩ := Int.eq_ofNat_of_zero_le nb.1
          have NUM0 : Hid (∀ w, Calls Tryd.prog 31 #[.string (s.extract (p) (p + d))] w fun e w' => e = .returned (.tuple #[.int .i64 (N : Int), .bool true]) ∧ w' = w) := fun w => by have := NUM.out w; rwa [hp, hN] at this
          have PY : Hid (∀ i, fuO (Lib.toUpperA (cpU l1)) k = some i → ¬ (cpD l1 = true ∧ (cpB l1 = [] ∨ cpR l1 ≠ [])) → ptO l1 k = if ¬ k = 0 ∧ pM i ≤ N then none else match frO (qL i) (cpB l1) with | none => none | some f => some (N * qL i + f, i, cpR l1)) := fun i h1 h2 => by
            have := PY0.out i hp h1 h2
            rwa [hN, Int.toNat_natCast] at this
          have Nb : N ≤ 9223372036854775807 := by omega
          clear NUM NO hp nb hN PY0
          cases hdot : cpD l1
          · have C3X := C3N.out hdot
            have FRB : Hid (∀ i, frO (qL i) (cpB l1) = some 0) := fun i => by rw [CBN.out hdot]; exact frO_nil _
            have dotF : (p + d < s.size ∧ ∃ h : p + d < s.size, ¬ (s[p + d].toNat : Int) = 46) ∨ p + d = s.size := by
              by_cases h : p + d < s.size
              · left
                refine ⟨h, h, ?_⟩
                have c := CD.out
                rw [hdot, dif_pos h] at c
                exact of_decide_eq_false c.symm
              · right; omega
            clear CD C3D CBD C3N CBN LZ
            rcases dotF with ⟨xlt, h46, n46⟩ | xeq
            · have n46' : ((s[p + d].toNat : Int) == 46) = false := by simpa using n46
              have xlt' : ((p + d : Nat) : Int) < s.size := by omega
              have UA : Hid (∀ w, Calls Tryd.prog 32 #[.string s, .int .i64 ((p + d : Nat) : Int)] w fun e w' => e = .returned (uaV s.data.toList (p + d)) ∧ Below w.heap.size w w') := fun w => unitAtR_of s (p + d) hs (by omega) w
              have eU := CU.out (p + d) C3X
              have eR := CR.out (p + d) C3X
              have rt := runT_le2 letT s.data.toList (p + d) (by rw [SL.out]; omega)
              rw [SL.out] at rt
              unfold uaV at UA
              rw [eU] at UA
              generalize runT letT (s.data.toList.drop (p + d)) = t at *
              have ER : Hid (cpR l1 = s.data.toList.drop (p + d + t)) := eR
              have RE : Hid (cpR l1 = [] ↔ p + d + t = s.size) := by
                show _ ↔ _
                rw [eR, List.drop_eq_nil_iff, SL.out]
                omega
              cases hf : fuO (Lib.toUpperA (cpU l1)) 0 with
              | none =>
                have E : Hid (R = none) := by
                  show _ = _
                  rw [RS.out]
                  exact spO_none _ _ _ (NF.out (by rw [FF.out, hf]))
                rw [hf] at UA
                have UAX : Hid (∀ w, Calls Tryd.prog 32 #[.string s, .int .i64 ((p + d : Nat) : Int)] w fun e w' => e = .returned (.tuple #[.int .i64 (-1), .int .i64 ((p + d : Nat) : Int)]) ∧ Below w.heap.size w w') := UA.out
                clear RS PY NF FF BADN CU CR BD eU eR hf C3X FRB UA ER RE
                go_wp2_with fail
                refine (RUN1.out _ (by first | rfl | omega) _).mono ?_
                rintro e w1 ⟨rfl, rfl⟩
                go_wp2_with (go_at_call 31; refine (NUM0.out _).mono ?_; rintro e w1 ⟨rfl, rfl⟩)
                refine (UAX.out _).mono ?_
                rintro e w4 ⟨rfl, hb4⟩
                have B4 : Hid (Below w.heap.size w w4) := B.out.trans (hb4.mono B.out.size)
                clear hb4
                go_wp2
                go_returns
                exact ⟨by rw [E.out]; rfl, B4.out⟩
              | some i =>
                have i7 : i < 7 := (fuO_bd _ _ _ hf).2
                rw [hf] at UA
                have UAX : Hid (∀ w, Calls Tryd.prog 32 #[.string s, .int .i64 ((p + d : Nat) : Int)] w fun e w' => e = .returned (.tuple #[.int .i64 (i : Int), .int .i64 ((p + d + t : Nat) : Int)]) ∧ Below w.heap.size w w') := UA.out
                clear UA
                by_cases ki : k ≤ i
                · have ki2 : k ≤ i := ki
                  have fk : fuO (Lib.toUpperA (cpU l1)) k = some i := by rw [FF.out, hf]; simp only; rw [if_pos ki]
                  have UNIT : Hid _ := fun w => unitR_of i i7 w
                  have ub := qL_bd i
                  have mb := pM_bd i
                  have PYi : Hid _ := PY.out i fk (fun h => by rw [hdot] at h; cases h.1)
                  by_cases bnd : ¬ k = 0 ∧ pM i ≤ N
                  · have E : Hid (R = none) := by
                      show _ = _
                      rw [RS.out]
                      exact spO_none _ _ _ (by rw [PYi.out, if_pos bnd])
                    obtain ⟨b1, b2⟩ := bnd
                    have b1' : (0 : Int) ≤ (k : Int) - 1 := by omega
                    clear RS PY NF FF BADN CU CR BD eU eR hf C3X FRB ER RE PYi
                    generalize bl (loN i) = un at *
                    go_wp2_with fail
                    refine (RUN1.out _ (by first | rfl | omega) _).mono ?_
                    rintro e w1 ⟨rfl, rfl⟩
                    go_wp2_with (go_at_call 31; refine (NUM0.out _).mono ?_; rintro e w1 ⟨rfl, rfl⟩)
                    refine (UAX.out _).mono ?_
                    rintro e w4 ⟨rfl, hb4⟩
                    have B4 : Hid (Below w.heap.size w w4) := B.out.trans (hb4.mono B.out.size)
                    clear hb4
                    go_wp2_with (go_at_call 33; refine (UNIT.out _).mono ?_; rintro e w5 ⟨rfl, rfl⟩)
                    go_returns
                    exact ⟨by rw [E.out]; rfl, B4.out⟩
                  · have bok2 : (N : Int) < (pM i : Int) := by
                      have : ¬ pM i ≤ N := fun g => bnd ⟨by omega, g⟩
                      omega
                    rw [if_neg bnd] at PYi
                    have PL : Hid _ := fun w => plusR_of x N (qL i) hx (by omega) (by omega) w
                    unfold plV at PL
                    rcases Nat.lt_or_ge 9223372036854775807 (x + N * qL i) with p1 | p1
                    · have E : Hid (R = none) := by
                        show _ = _
                        rw [RS.out]
                        have q := PYi.out
                        rw [FRB.out] at q
                        exact spO_over _ _ _ _ _ _ q (by omega)
                      rw [if_neg (Nat.not_le.mpr p1)] at PL
                      clear RS PY NF FF BADN CU CR BD eU eR hf C3X FRB ER RE PYi bnd
                      generalize bl (loN i) = un at *
                      all_goals
                        go_wp2_with fail
                        refine (RUN1.out _ (by first | rfl | omega) _).mono ?_
                        rintro e w1 ⟨rfl, rfl⟩
                        go_wp2_with (go_at_call 31; refine (NUM0.out _).mono ?_; rintro e w1 ⟨rfl, rfl⟩)
                        refine (UAX.out _).mono ?_
                        rintro e w4 ⟨rfl, hb4⟩
                        have B4 : Hid (Below w.heap.size w w4) := B.out.trans (hb4.mono B.out.size)
                        clear hb4
                        go_wp2_with (first
                          | (go_at_call 33; refine (UNIT.out _).mono ?_; rintro e w5 ⟨rfl, rfl⟩)
                          | (go_at_call 34; refine (PL.out _).mono ?_; rintro e w6 ⟨rfl, rfl⟩))
                        go_returns
                        exact ⟨by rw [E.out]; rfl, B4.out⟩
                    rw [if_pos p1] at PL
                    have NX : Hid (R = spR s.data.toList (p + d + t) (x + N * qL i) (i + 1)) := by
                      show _ = _
                      have q := PYi.out
                      rw [FRB.out, ER.out] at q
                      simp only [Nat.add_zero] at q
                      rw [RS.out]
                      exact spR_next _ _ _ _ _ _ _ q p1
                    clear RS PY NF FF BADN CU CR BD eU eR hf C3X FRB ER RE PYi bnd
                    generalize bl (loN i) = un at *
                    generalize hm : N * qL i = m at *
                    all_goals
                      go_wp2_with fail
                      refine (RUN1.out _ (by first | rfl | omega) _).mono ?_
                      rintro e w1 ⟨rfl, rfl⟩
                      go_wp2_with (go_at_call 31; refine (NUM0.out _).mono ?_; rintro e w1 ⟨rfl, rfl⟩)
                      refine (UAX.out _).mono ?_
                      rintro e w4 ⟨rfl, hb4⟩
                      have B4 : Hid (Below w.heap.size w w4) := B.out.trans (hb4.mono B.out.size)
                      clear hb4
                      go_wp2_with (first
                        | (go_at_call 33; refine (UNIT.out _).mono ?_; rintro e w5 ⟨rfl, rfl⟩)
                        | (go_at_call 34; refine (PL.out _).mono ?_; rintro e w6 ⟨rfl, rfl⟩))
                      go_roundw
                      case rel =>
                        go_light
                        exact ⟨x + m, i + 1, p + d + t, by first | rfl | (congr 1; omega), p1, congrArg (Value.int .i64) (by omega), by omega, by first | rfl | exact congrArg (Value.int .i64) (by omega), by omega, by omega, NX, B4.out⟩
                      case measure => simp [intOf]; omega
                · have E : Hid (R = none) := by
                    show _ = _
                    rw [RS.out]
                    exact spO_none _ _ _ (NF.out (by rw [FF.out, hf]; simp only; rw [if_neg ki]))
                  have ki' : (i : Int) ≤ (k : Int) - 1 := by omega
                  clear RS PY NF FF BADN CU CR BD eU eR hf C3X FRB ER RE
                  go_wp2_with fail
                  refine (RUN1.out _ (by first | rfl | omega) _).mono ?_
                  rintro e w1 ⟨rfl, rfl⟩
                  go_wp2_with (go_at_call 31; refine (NUM0.out _).mono ?_; rintro e w1 ⟨rfl, rfl⟩)
                  refine (UAX.out _).mono ?_
                  rintro e w4 ⟨rfl, hb4⟩
                  have B4 : Hid (Below w.heap.size w w4) := B.out.trans (hb4.mono B.out.size)
                  clear hb4
                  go_wp2
                  go_returns
                  exact ⟨by rw [E.out]; rfl, B4.out⟩
            · have xge : ¬ ((p + d : Nat) : Int) < s.size := by omega
              clear xeq
              have UA : Hid (∀ w, Calls Tryd.prog 32 #[.string s, .int .i64 ((p + d : Nat) : Int)] w fun e w' => e = .returned (uaV s.data.toList (p + d)) ∧ Below w.heap.size w w') := fun w => unitAtR_of s (p + d) hs (by omega) w
              have eU := CU.out (p + d) C3X
              have eR := CR.out (p + d) C3X
              have rt := runT_le2 letT s.data.toList (p + d) (by rw [SL.out]; omega)
              rw [SL.out] at rt
              unfold uaV at UA
              rw [eU] at UA
              generalize runT letT (s.data.toList.drop (p + d)) = t at *
              have ER : Hid (cpR l1 = s.data.toList.drop (p + d + t)) := eR
              have RE : Hid (cpR l1 = [] ↔ p + d + t = s.size) := by
                show _ ↔ _
                rw [eR, List.drop_eq_nil_iff, SL.out]
                omega
              cases hf : fuO (Lib.toUpperA (cpU l1)) 0 with
              | none =>
                have E : Hid (R = none) := by
                  show _ = _
                  rw [RS.out]
                  exact spO_none _ _ _ (NF.out (by rw [FF.out, hf]))
                rw [hf] at UA
                have UAX : Hid (∀ w, Calls Tryd.prog 32 #[.string s, .int .i64 ((p + d : Nat) : Int)] w fun e w' => e = .returned (.tuple #[.int .i64 (-1), .int .i64 ((p + d : Nat) : Int)]) ∧ Below w.heap.size w w') := UA.out
                clear RS PY NF FF BADN CU CR BD eU eR hf C3X FRB UA ER RE
                go_wp2_with fail
                refine (RUN1.out _ (by first | rfl | omega) _).mono ?_
                rintro e w1 ⟨rfl, rfl⟩
                go_wp2_with (go_at_call 31; refine (NUM0.out _).mono ?_; rintro e w1 ⟨rfl, rfl⟩)
                refine (UAX.out _).mono ?_
                rintro e w4 ⟨rfl, hb4⟩
                have B4 : Hid (Below w.heap.size w w4) := B.out.trans (hb4.mono B.out.size)
                clear hb4
                go_wp2
                go_returns
                exact ⟨by rw [E.out]; rfl, B4.out⟩
              | some i =>
                have i7 : i < 7 := (fuO_bd _ _ _ hf).2
                rw [hf] at UA
                have UAX : Hid (∀ w, Calls Tryd.prog 32 #[.string s, .int .i64 ((p + d : Nat) : Int)] w fun e w' => e = .returned (.tuple #[.int .i64 (i : Int), .int .i64 ((p + d + t : Nat) : Int)]) ∧ Below w.heap.size w w') := UA.out
                clear UA
                by_cases ki : k ≤ i
                · have ki2 : k ≤ i := ki
                  have fk : fuO (Lib.toUpperA (cpU l1)) k = some i := by rw [FF.out, hf]; simp only; rw [if_pos ki]
                  have UNIT : Hid _ := fun w => unitR_of i i7 w
                  have ub := qL_bd i
                  have mb := pM_bd i
                  have PYi : Hid _ := PY.out i fk (fun h => by rw [hdot] at h; cases h.1)
                  by_cases bnd : ¬ k = 0 ∧ pM i ≤ N
                  · have E : Hid (R = none) := by
                      show _ = _
                      rw [RS.out]
                      exact spO_none _ _ _ (by rw [PYi.out, if_pos bnd])
                    obtain ⟨b1, b2⟩ := bnd
                    have b1' : (0 : Int) ≤ (k : Int) - 1 := by omega
                    clear RS PY NF FF BADN CU CR BD eU eR hf C3X FRB ER RE PYi
                    generalize bl (loN i) = un at *
                    go_wp2_with fail
                    refine (RUN1.out _ (by first | rfl | omega) _).mono ?_
                    rintro e w1 ⟨rfl, rfl⟩
                    go_wp2_with (go_at_call 31; refine (NUM0.out _).mono ?_; rintro e w1 ⟨rfl, rfl⟩)
                    refine (UAX.out _).mono ?_
                    rintro e w4 ⟨rfl, hb4⟩
                    have B4 : Hid (Below w.heap.size w w4) := B.out.trans (hb4.mono B.out.size)
                    clear hb4
                    go_wp2_with (go_at_call 33; refine (UNIT.out _).mono ?_; rintro e w5 ⟨rfl, rfl⟩)
                    go_returns
                    exact ⟨by rw [E.out]; rfl, B4.out⟩
                  · have bok2 : (N : Int) < (pM i : Int) := by
                      have : ¬ pM i ≤ N := fun g => bnd ⟨by omega, g⟩
                      omega
                    rw [if_neg bnd] at PYi
                    have PL : Hid _ := fun w => plusR_of x N (qL i) hx (by omega) (by omega) w
                    unfold plV at PL
                    rcases Nat.lt_or_ge 9223372036854775807 (x + N * qL i) with p1 | p1
                    · have E : Hid (R = none) := by
                        show _ = _
                        rw [RS.out]
                        have q := PYi.out
                        rw [FRB.out] at q
                        exact spO_over _ _ _ _ _ _ q (by omega)
                      rw [if_neg (Nat.not_le.mpr p1)] at PL
                      clear RS PY NF FF BADN CU CR BD eU eR hf C3X FRB ER RE PYi bnd
                      generalize bl (loN i) = un at *
                      all_goals
                        go_wp2_with fail
                        refine (RUN1.out _ (by first | rfl | omega) _).mono ?_
                        rintro e w1 ⟨rfl, rfl⟩
                        go_wp2_with (go_at_call 31; refine (NUM0.out _).mono ?_; rintro e w1 ⟨rfl, rfl⟩)
                        refine (UAX.out _).mono ?_
                        rintro e w4 ⟨rfl, hb4⟩
                        have B4 : Hid (Below w.heap.size w w4) := B.out.trans (hb4.mono B.out.size)
                        clear hb4
                        go_wp2_with (first
                          | (go_at_call 33; refine (UNIT.out _).mono ?_; rintro e w5 ⟨rfl, rfl⟩)
                          | (go_at_call 34; refine (PL.out _).mono ?_; rintro e w6 ⟨rfl, rfl⟩))
                        go_returns
                        exact ⟨by rw [E.out]; rfl, B4.out⟩
                    rw [if_pos p1] at PL
                    have NX : Hid (R = spR s.data.toList (p + d + t) (x + N * qL i) (i + 1)) := by
                      show _ = _
                      have q := PYi.out
                      rw [FRB.out, ER.out] at q
                      simp only [Nat.add_zero] at q
                      rw [RS.out]
                      exact spR_next _ _ _ _ _ _ _ q p1
                    clear RS PY NF FF BADN CU CR BD eU eR hf C3X FRB ER RE PYi bnd
                    generalize bl (loN i) = un at *
                    generalize hm : N * qL i = m at *
                    all_goals
                      go_wp2_with fail
                      refine (RUN1.out _ (by first | rfl | omega) _).mono ?_
                      rintro e w1 ⟨rfl, rfl⟩
                      go_wp2_with (go_at_call 31; refine (NUM0.out _).mono ?_; rintro e w1 ⟨rfl, rfl⟩)
                      refine (UAX.out _).mono ?_
                      rintro e w4 ⟨rfl, hb4⟩
                      have B4 : Hid (Below w.heap.size w w4) := B.out.trans (hb4.mono B.out.size)
                      clear hb4
                      go_wp2_with (first
                        | (go_at_call 33; refine (UNIT.out _).mono ?_; rintro e w5 ⟨rfl, rfl⟩)
                        | (go_at_call 34; refine (PL.out _).mono ?_; rintro e w6 ⟨rfl, rfl⟩))
                      go_roundw
                      case rel =>
                        go_light
                        exact ⟨x + m, i + 1, p + d + t, by first | rfl | (congr 1; omega), p1, congrArg (Value.int .i64) (by omega), by omega, by first | rfl | exact congrArg (Value.int .i64) (by omega), by omega, by omega, NX, B4.out⟩
                      case measure => simp [intOf]; omega
                · have E : Hid (R = none) := by
                    show _ = _
                    rw [RS.out]
                    exact spO_none _ _ _ (NF.out (by rw [FF.out, hf]; simp only; rw [if_neg ki]))
                  have ki' : (i : Int) ≤ (k : Int) - 1 := by omega
                  clear RS PY NF FF BADN CU CR BD eU eR hf C3X FRB ER RE
                  go_wp2_with fail
                  refine (RUN1.out _ (by first | rfl | omega) _).mono ?_
                  rintro e w1 ⟨rfl, rfl⟩
                  go_wp2_with (go_at_call 31; refine (NUM0.out _).mono ?_; rintro e w1 ⟨rfl, rfl⟩)
                  refine (UAX.out _).mono ?_
                  rintro e w4 ⟨rfl, hb4⟩
                  have B4 : Hid (Below w.heap.size w w4) := B.out.trans (hb4.mono B.out.size)
                  clear hb4
                  go_wp2
                  go_returns
                  exact ⟨by rw [E.out]; rfl, B4.out⟩
          · have h46 : ∃ h : p + d < s.size, (s[p + d].toNat : Int) = 46 := by
              have c := CD.out
              rw [hdot] at c
              by_cases h : p + d < s.size
              · rw [dif_pos h] at c
                exact ⟨h, of_decide_eq_true c.symm⟩
              · rw [dif_neg h] at c; cases c
            obtain ⟨xlt, x46⟩ := h46
            have xlt' : ((p + d : Nat) : Int) < s.size := by omega
            have C3X := C3D.out hdot
            have CB : Hid _ := CBD.out hdot
            have RUN2 : Hid (∀ z : Int, z = ((p + d + 1 : Nat) : Int) → ∀ w, Calls Tryd.prog 30 #[.string s, .int .i64 z] w fun e w' => e = .returned (.int .i64 ((p + d + 1 + runT digT (s.data.toList.drop (p + d + 1)) : Nat) : Int)) ∧ w' = w) := fun z hz w => by subst hz; exact runR_of s (p + d + 1) hml (by omega) w
            have rl2 := runT_le2 digT s.data.toList (p + d + 1) (by rw [SL.out]; omega)
            rw [SL.out] at rl2
            have FRB : Hid True := trivial
            clear CD C3D CBD C3N CBN
            generalize runT digT (s.data.toList.drop (p + d + 1)) = e1 at *
            have UA : Hid (∀ w, Calls Tryd.prog 32 #[.string s, .int .i64 ((p + d + 1 + e1 : Nat) : Int)] w fun e w' => e = .returned (uaV s.data.toList (p + d + 1 + e1)) ∧ Below w.heap.size w w') := fun w => unitAtR_of s (p + d + 1 + e1) hs (by omega) w
            have eU := CU.out (p + d + 1 + e1) C3X
            have eR := CR.out (p + d + 1 + e1) C3X
            have rt := runT_le2 letT s.data.toList (p + d + 1 + e1) (by rw [SL.out]; omega)
            rw [SL.out] at rt
            unfold uaV at UA
            rw [eU] at UA
            generalize runT letT (s.data.toList.drop (p + d + 1 + e1)) = t at *
            have ER : Hid (cpR l1 = s.data.toList.drop (p + d + 1 + e1 + t)) := eR
            have RE : Hid (cpR l1 = [] ↔ p + d + 1 + e1 + t = s.size) := by
              show _ ↔ _
              rw [eR, List.drop_eq_nil_iff, SL.out]
              omega
            cases hf : fuO (Lib.toUpperA (cpU l1)) 0 with
            | none =>
              have E : Hid (R = none) := by
                show _ = _
                rw [RS.out]
                exact spO_none _ _ _ (NF.out (by rw [FF.out, hf]))
              rw [hf] at UA
              have UAX : Hid (∀ w, Calls Tryd.prog 32 #[.string s, .int .i64 ((p + d + 1 + e1 : Nat) : Int)] w fun e w' => e = .returned (.tuple #[.int .i64 (-1), .int .i64 ((p + d + 1 + e1 : Nat) : Int)]) ∧ Below w.heap.size w w') := UA.out
              clear RS PY NF FF BADN CU CR BD eU eR hf C3X FRB UA ER RE
              go_wp2_with fail
              refine (RUN1.out _ (by first | rfl | omega) _).mono ?_
              rintro e w1 ⟨rfl, rfl⟩
              go_wp2_with (go_at_call 31; refine (NUM0.out _).mono ?_; rintro e w1 ⟨rfl, rfl⟩)
              refine (RUN2.out _ (by first | rfl | omega) _).mono ?_
              rintro e w3 ⟨rfl, rfl⟩
              go_wp2_with fail
              rw [CB.out]
              refine (UAX.out _).mono ?_
              rintro e w4 ⟨rfl, hb4⟩
              have B4 : Hid (Below w.heap.size w w4) := B.out.trans (hb4.mono B.out.size)
              clear hb4
              go_wp2
              go_returns
              exact ⟨by rw [E.out]; rfl, B4.out⟩
            | some i =>
              have i7 : i < 7 := (fuO_bd _ _ _ hf).2
              rw [hf] at UA
              have UAX : Hid (∀ w, Calls Tryd.prog 32 #[.string s, .int .i64 ((p + d + 1 + e1 : Nat) : Int)] w fun e w' => e = .returned (.tuple #[.int .i64 (i : Int), .int .i64 ((p + d + 1 + e1 + t : Nat) : Int)]) ∧ Below w.heap.size w w') := UA.out
              clear UA
              by_cases ki : k ≤ i
              · have ki2 : k ≤ i := ki
                have fk : fuO (Lib.toUpperA (cpU l1)) k = some i := by rw [FF.out, hf]; simp only; rw [if_pos ki]
                have UNIT : Hid _ := fun w => unitR_of i i7 w
                have ub := qL_bd i
                have mb := pM_bd i
                by_cases bad : cpB l1 = [] ∨ cpR l1 ≠ []
                · have E : Hid (R = none) := by
                    show _ = _
                    rw [RS.out]
                    exact spO_none _ _ _ (BADN.out ⟨hdot, bad⟩)
                  have bad' : (bl (cpB l1)).size = 0 ∨ p + d + 1 + e1 + t < s.size := by
                    rcases bad with h | h
                    · left; rw [h]; rfl
                    · right
                      have : ¬ p + d + 1 + e1 + t = s.size := fun g => h (RE.out.mpr g)
                      omega
                  clear RS PY NF FF BADN CU CR BD eU eR hf C3X FRB ER RE bad UNIT
                  generalize bl (cpB l1) = pt at *
                  rcases bad' with bad' | bad'
                  all_goals
                    go_wp2_with fail
                    refine (RUN1.out _ (by first | rfl | omega) _).mono ?_
                    rintro e w1 ⟨rfl, rfl⟩
                    go_wp2_with (go_at_call 31; refine (NUM0.out _).mono ?_; rintro e w1 ⟨rfl, rfl⟩)
                    refine (RUN2.out _ (by first | rfl | omega) _).mono ?_
                    rintro e w3 ⟨rfl, rfl⟩
                    go_wp2_with fail
                    rw [CB.out]
                    refine (UAX.out _).mono ?_
                    rintro e w4 ⟨rfl, hb4⟩
                    have B4 : Hid (Below w.heap.size w w4) := B.out.trans (hb4.mono B.out.size)
                    clear hb4
                    go_wp2
                    all_goals
                      go_returns
                      exact ⟨by rw [E.out]; rfl, B4.out⟩
                · have bs0 : cpB l1 ≠ [] := fun h => bad (Or.inl h)
                  have bz : 0 < (bl (cpB l1)).size := by
                    rw [bl_size]
                    exact List.length_pos_iff.mpr bs0
                  have bzB : (((bl (cpB l1)).size : Int) == 0) = false := beq_eq_false_iff_ne.mpr (fun h => by omega)
                  have re : p + d + 1 + e1 + t = s.size := RE.out.mp (by
                    by_cases h : cpR l1 = []
                    · exact h
                    · exact absurd (Or.inr h) bad)
                  have PYi : Hid _ := PY.out i fk (fun h => bad h.2)
                  by_cases bnd : ¬ k = 0 ∧ pM i ≤ N
                  · have E : Hid (R = none) := by
                      show _ = _
                      rw [RS.out]
                      exact spO_none _ _ _ (by rw [PYi.out, if_pos bnd])
                    obtain ⟨b1, b2⟩ := bnd
                    have b1' : (0 : Int) ≤ (k : Int) - 1 := by omega
                    clear RS PY NF FF BADN CU CR BD eU eR hf C3X FRB ER RE PYi
                    generalize bl (cpB l1) = pt at *
                    generalize bl (loN i) = un at *
                    go_wp2_with fail
                    refine (RUN1.out _ (by first | rfl | omega) _).mono ?_
                    rintro e w1 ⟨rfl, rfl⟩
                    go_wp2_with (go_at_call 31; refine (NUM0.out _).mono ?_; rintro e w1 ⟨rfl, rfl⟩)
                    refine (RUN2.out _ (by first | rfl | omega) _).mono ?_
                    rintro e w3 ⟨rfl, rfl⟩
                    go_wp2_with fail
                    rw [CB.out]
                    refine (UAX.out _).mono ?_
                    rintro e w4 ⟨rfl, hb4⟩
                    have B4 : Hid (Below w.heap.size w w4) := B.out.trans (hb4.mono B.out.size)
                    clear hb4
                    go_wp2_with (go_at_call 33; refine (UNIT.out _).mono ?_; rintro e w5 ⟨rfl, rfl⟩)
                    go_returns
                    exact ⟨by rw [E.out]; rfl, B4.out⟩
                  · have bok2 : (N : Int) < (pM i : Int) := by
                      have : ¬ pM i ≤ N := fun g => bnd ⟨by omega, g⟩
                      omega
                    rw [if_neg bnd] at PYi
                    have PL : Hid _ := fun w => plusR_of x N (qL i) hx (by omega) (by omega) w
                    unfold plV at PL
                    rcases Nat.lt_or_ge 9223372036854775807 (x + N * qL i) with p1 | p1
                    · have E : Hid (R = none) := by
                        show _ = _
                        rw [RS.out]
                        have q := PYi.out
                        cases g : frO (qL i) (cpB l1) with
                        | none => rw [g] at q; exact spO_none _ _ _ q
                        | some f => rw [g] at q; exact spO_over _ _ _ _ _ _ q (by omega)
                      rw [if_neg (Nat.not_le.mpr p1)] at PL
                      clear RS PY NF FF BADN CU CR BD eU eR hf C3X FRB ER RE PYi bnd
                      generalize bl (cpB l1) = pt at *
                      generalize bl (loN i) = un at *
                      all_goals
                        go_wp2_with fail
                        refine (RUN1.out _ (by first | rfl | omega) _).mono ?_
                        rintro e w1 ⟨rfl, rfl⟩
                        go_wp2_with (go_at_call 31; refine (NUM0.out _).mono ?_; rintro e w1 ⟨rfl, rfl⟩)
                        refine (RUN2.out _ (by first | rfl | omega) _).mono ?_
                        rintro e w3 ⟨rfl, rfl⟩
                        go_wp2_with fail
                        rw [CB.out]
                        refine (UAX.out _).mono ?_
                        rintro e w4 ⟨rfl, hb4⟩
                        have B4 : Hid (Below w.heap.size w w4) := B.out.trans (hb4.mono B.out.size)
                        clear hb4
                        go_wp2_with (first
                          | (go_at_call 33; refine (UNIT.out _).mono ?_; rintro e w5 ⟨rfl, rfl⟩)
                          | (go_at_call 34; refine (PL.out _).mono ?_; rintro e w6 ⟨rfl, rfl⟩))
                        go_returns
                        exact ⟨by rw [E.out]; rfl, B4.out⟩
                    rw [if_pos p1] at PL
                    have FR : Hid (∀ w, Calls Tryd.prog 35 #[.string (bl (cpB l1)), .int .i64 (qL i : Int)] w fun e w' => e = .returned (fcV (qL i) (cpB l1)) ∧ Below w.heap.size w w') := fun w => by
                      have := fractionR_of (bl (cpB l1)) (qL i) (by rw [bl_size]; have := (cp_size l1).2.1; have := LZ.out; unfold maxLen; omega) (by rw [bl_list]; exact BD.out) (qL_day i i7) ub.1 ub.2 w
                      rwa [bl_list] at this
                    unfold fcV at FR
                    cases fr : frO (qL i) (cpB l1) with
                    | none =>
                      have E : Hid (R = none) := by
                        show _ = _
                        have q := PYi.out
                        rw [fr] at q
                        rw [RS.out]
                        exact spO_none _ _ _ q
                      rw [fr] at FR
                      have FRX : Hid (∀ w, Calls Tryd.prog 35 #[.string (bl (cpB l1)), .int .i64 (qL i : Int)] w fun e w' => e = .returned (.tuple #[.int .i64 0, .bool false]) ∧ Below w.heap.size w w') := FR.out
                      clear RS PY NF FF BADN CU CR BD eU eR hf C3X FRB ER RE PYi bnd FR fr bs0
                      generalize bl (cpB l1) = pt at *
                      generalize bl (loN i) = un at *
                      generalize hm : N * qL i = m at *
                      all_goals
                        go_wp2_with fail
                        refine (RUN1.out _ (by first | rfl | omega) _).mono ?_
                        rintro e w1 ⟨rfl, rfl⟩
                        go_wp2_with (go_at_call 31; refine (NUM0.out _).mono ?_; rintro e w1 ⟨rfl, rfl⟩)
                        refine (RUN2.out _ (by first | rfl | omega) _).mono ?_
                        rintro e w3 ⟨rfl, rfl⟩
                        go_wp2_with fail
                        rw [CB.out]
                        refine (UAX.out _).mono ?_
                        rintro e w4 ⟨rfl, hb4⟩
                        have B4 : Hid (Below w.heap.size w w4) := B.out.trans (hb4.mono B.out.size)
                        clear hb4
                        go_wp2_with (first
                          | (go_at_call 33; refine (UNIT.out _).mono ?_; rintro e w5 ⟨rfl, rfl⟩)
                          | (go_at_call 34; refine (PL.out _).mono ?_; rintro e w6 ⟨rfl, rfl⟩))
                        refine (FRX.out _).mono ?_
                        rintro e w7 ⟨rfl, hb7⟩
                        have B7 : Hid (Below w.heap.size w w7) := B4.out.trans (hb7.mono B4.out.size)
                        clear hb7
                        go_wp2
                        go_returns
                        exact ⟨by rw [E.out]; rfl, B7.out⟩
                    | some f =>
                      have fb := frO_lt (qL i) (cpB l1) BD.out f fr
                      rw [fr] at FR
                      have FRX : Hid (∀ w, Calls Tryd.prog 35 #[.string (bl (cpB l1)), .int .i64 (qL i : Int)] w fun e w' => e = .returned (.tuple #[.int .i64 (f : Int), .bool true]) ∧ Below w.heap.size w w') := fun w => by
                        have := FR.out w
                        have z : decide (0 < (cpB l1).length) = true := decide_eq_true (List.length_pos_iff.mpr bs0)
                        simp only [z] at this
                        exact this
                      have PL2 : Hid _ := fun w => plusR_of (x + N * qL i) f 1 p1 (by omega) (by omega) w
                      unfold plV at PL2
                      rw [Nat.mul_one] at PL2
                      have q := PYi.out
                      rw [fr] at q
                      simp only at q
                      by_cases p2 : x + N * qL i + f ≤ 9223372036854775807
                      · rw [if_pos p2] at PL2
                        have NX : Hid (R = spR s.data.toList (p + d + 1 + e1 + t) (x + N * qL i + f) (i + 1)) := by
                          show _ = _
                          rw [ER.out] at q
                          rw [RS.out, show x + N * qL i + f = x + (N * qL i + f) from Nat.add_assoc _ _ _]
                          exact spR_next _ _ _ _ _ _ _ q (show x + (N * qL i + f) ≤ 9223372036854775807 by omega)
                        clear q
                        clear RS PY NF FF BADN CU CR BD eU eR hf C3X FRB ER RE PYi bnd FR fr bs0
                        generalize bl (cpB l1) = pt at *
                        generalize bl (loN i) = un at *
                        generalize hm : N * qL i = m at *
                        all_goals
                          go_wp2_with fail
                          refine (RUN1.out _ (by first | rfl | omega) _).mono ?_
                          rintro e w1 ⟨rfl, rfl⟩
                          go_wp2_with (go_at_call 31; refine (NUM0.out _).mono ?_; rintro e w1 ⟨rfl, rfl⟩)
                          refine (RUN2.out _ (by first | rfl | omega) _).mono ?_
                          rintro e w3 ⟨rfl, rfl⟩
                          go_wp2_with fail
                          rw [CB.out]
                          refine (UAX.out _).mono ?_
                          rintro e w4 ⟨rfl, hb4⟩
                          have B4 : Hid (Below w.heap.size w w4) := B.out.trans (hb4.mono B.out.size)
                          clear hb4
                          go_wp2_with (first
                            | (go_at_call 33; refine (UNIT.out _).mono ?_; rintro e w5 ⟨rfl, rfl⟩)
                            | (go_at_call_of 34 N; refine (PL.out _).mono ?_; rintro e w6 ⟨rfl, rfl⟩))
                          refine (FRX.out _).mono ?_
                          rintro e w7 ⟨rfl, hb7⟩
                          have B7 : Hid (Below w.heap.size w w7) := B4.out.trans (hb7.mono B4.out.size)
                          clear hb7
                          go_wp2_with (go_at_call 34; refine (PL2.out _).mono ?_; rintro e w8 ⟨rfl, rfl⟩)
                          go_roundw
                          case rel =>
                            go_light
                            exact ⟨x + m + f, i + 1, p + d + 1 + e1 + t, by first | rfl | (congr 1; omega), p2, congrArg (Value.int .i64) (by omega), by omega, by first | rfl | exact congrArg (Value.int .i64) (by omega), by omega, by omega, NX, B7.out⟩
                          case measure => simp [intOf]; omega
                      · rw [if_neg p2] at PL2
                        have E : Hid (R = none) := by
                          show _ = _
                          rw [RS.out]
                          exact spO_over _ _ _ _ _ _ q (by omega)
                        clear q
                        clear RS PY NF FF BADN CU CR BD eU eR hf C3X FRB ER RE PYi bnd FR fr bs0
                        generalize bl (cpB l1) = pt at *
                        generalize bl (loN i) = un at *
                        generalize hm : N * qL i = m at *
                        all_goals
                          go_wp2_with fail
                          refine (RUN1.out _ (by first | rfl | omega) _).mono ?_
                          rintro e w1 ⟨rfl, rfl⟩
                          go_wp2_with (go_at_call 31; refine (NUM0.out _).mono ?_; rintro e w1 ⟨rfl, rfl⟩)
                          refine (RUN2.out _ (by first | rfl | omega) _).mono ?_
                          rintro e w3 ⟨rfl, rfl⟩
                          go_wp2_with fail
                          rw [CB.out]
                          refine (UAX.out _).mono ?_
                          rintro e w4 ⟨rfl, hb4⟩
                          have B4 : Hid (Below w.heap.size w w4) := B.out.trans (hb4.mono B.out.size)
                          clear hb4
                          go_wp2_with (first
                            | (go_at_call 33; refine (UNIT.out _).mono ?_; rintro e w5 ⟨rfl, rfl⟩)
                            | (go_at_call_of 34 N; refine (PL.out _).mono ?_; rintro e w6 ⟨rfl, rfl⟩))
                          refine (FRX.out _).mono ?_
                          rintro e w7 ⟨rfl, hb7⟩
                          have B7 : Hid (Below w.heap.size w w7) := B4.out.trans (hb7.mono B4.out.size)
                          clear hb7
                          go_wp2_with (go_at_call 34; refine (PL2.out _).mono ?_; rintro e w8 ⟨rfl, rfl⟩)
                          go_returns
                          exact ⟨by rw [E.out]; rfl, B7.out⟩
              · have E : Hid (R = none) := by
                  show _ = _
                  rw [RS.out]
                  exact spO_none _ _ _ (NF.out (by rw [FF.out, hf]; simp only; rw [if_neg ki]))
                have ki' : (i : Int) ≤ (k : Int) - 1 := by omega
                clear RS PY NF FF BADN CU CR BD eU eR hf C3X FRB ER RE
                generalize bl (cpB l1) = pt at *
                go_wp2_with fail
                refine (RUN1.out _ (by first | rfl | omega) _).mono ?_
                rintro e w1 ⟨rfl, rfl⟩
                go_wp2_with (go_at_call 31; refine (NUM0.out _).mono ?_; rintro e w1 ⟨rfl, rfl⟩)
                refine (RUN2.out _ (by first | rfl | omega) _).mono ?_
                rintro e w3 ⟨rfl, rfl⟩
                go_wp2_with fail
                rw [CB.out]
                refine (UAX.out _).mono ?_
                rintro e w4 ⟨rfl, hb4⟩
                have B4 : Hid (Below w.heap.size w w4) := B.out.trans (hb4.mono B.out.size)
                clear hb4
                go_wp2
                go_returns
                exact ⟨by rw [E.out]; rfl, B4.out⟩
    · have pe : s.data.toList.drop p = [] := List.drop_eq_nil_of_le (by rw [SL.out]; omega)
      by_cases k0 : k = 0
      · have E : Hid (R = none) := by
          show _ = _
          rw [HK.out, spR, if_pos k0, pe]
          exact spO_none _ _ _ (by unfold ptO; rw [if_pos (show cpW [] = [] from rfl)])
        have x0 : x = 0 := kp k0
        subst x0 k0
        clear HK pe kp
        go_wp2
        go_returns
        exact ⟨by rw [E.out]; rfl, B.out⟩
      · have E : Hid (R = some x) := by
          show _ = _
          rw [HK.out, spR, if_neg k0, if_pos pe]
        have k0' : (0 : Int) ≤ (k : Int) - 1 := by omega
        clear HK pe kp
        go_wp2
        go_returns
        refine ⟨?_, B.out⟩
        rw [E.out]
        simp [soV]
        omega
end Go.Proofs.YtpdnlojennhmpaaDoor
