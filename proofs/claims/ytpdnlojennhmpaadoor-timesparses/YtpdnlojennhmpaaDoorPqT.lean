/- What the document's fraction answers; no statement of the seat is proved here. -/
import Derived.Test.YtpdnlojennhmpaaDoorPqS
namespace Go.Proofs.YtpdnlojennhmpaaDoor
set_option linter.unusedVariables false
open Go.RowKit
theorem w64_nat (z : Nat) (h : z ≤ 9223372036854775807) : wrap64 (z : Int) = z := by unfold wrap64; omega
set_option maxRecDepth 100000 in
set_option maxHeartbeats 2000000 in
theorem fractionR_of (s : ByteArray) (u : Nat) (hs : s.size ≤ maxLen) (hD : AllD s.data.toList) (hu : u ∣ 86400000000000) (hu1 : 1 ≤ u) (hu2 : u ≤ 86400000000000) (w : World) : Calls Tryd.prog 35 #[.string s, .int .i64 u] w fun e w' => e = .returned (fcV u s.data.toList) ∧ Below w.heap.size w w' := by
  have hm : s.size ≤ 9223372036854775807 := hs
  have AD : Hid (AllD s.data.toList) := hD
  have UD : Hid (u ∣ 86400000000000) := hu
  have sl : s.data.toList.length = s.size := by simp
  have SL : Hid (s.data.toList.length = s.size) := sl
  generalize hR : fcV u s.data.toList = R
  have HR : Hid (fcV u s.data.toList = R) := hR
  clear hD hu hR sl
  go_enter Tryd.func35, Tryd.ntmps35
  go_wp2_with fail
  go_loop [6] (fun v => ∃ k : Nat, k ≤ s.size ∧ v = .int .i64 k ∧ Hid (endN s.data.toList s.size = endN s.data.toList k)) (fun v => (intOf v).toNat)
  case atStart => exact ⟨s.size, Nat.le_refl _, rfl, rfl⟩
  case round =>
    obtain ⟨k, hk, rfl, HK⟩ := hrel
    have out : endN s.data.toList s.size = k → Hid (s.data.toList.take k ++ List.replicate (s.size - k) 48 = s.data.toList ∧ (1 ≤ k → ∃ (t : List UInt8) (c : UInt8), s.data.toList.take k = t ++ [c] ∧ ¬ c = 48 ∧ t.length + 1 = k ∧ c ∈ s.data.toList)) := fun e => by
      have a := endN_split s.data.toList s.size (by rw [SL.out]; omega)
      have b := endN_last s.data.toList s.size (by rw [SL.out]; omega)
      rw [e] at a b
      refine ⟨?_, b⟩
      rw [← a]
      exact q_all s
    by_cases k0 : 0 < k
    · obtain ⟨j, rfl⟩ : ∃ j, k = j + 1 := ⟨k - 1, by omega⟩
      have ej : ((j + 1 : Nat) : Int) - 1 = j := by omega
      have hj : j < s.size := by omega
      have gj : Hid (s.data.toList[j]? = some s[j]) := by
        show _ = _
        rw [List.getElem?_eq_getElem (by rw [SL.out]; exact hj)]
        rfl
      by_cases c48 : (s[j].toNat : Int) = 48
      · have nx : Hid (endN s.data.toList s.size = endN s.data.toList j) := by
          show _ = _
          rw [HK.out]
          show (if s.data.toList[j]? = some 48 then endN s.data.toList j else j + 1) = _
          rw [gj.out, if_pos]
          congr 1
          apply UInt8.toNat_inj.mp
          show s[j].toNat = 48
          omega
        clear HK out gj
        go_wp2
        go_round
        case rel => exact ⟨j, by omega, by go_num, nx⟩
        case measure => simp [intOf]
      · have fin : endN s.data.toList s.size = j + 1 := by
          rw [HK.out]
          show (if s.data.toList[j]? = some 48 then endN s.data.toList j else j + 1) = _
          rw [gj.out, if_neg]
          intro e
          apply c48
          rw [Option.some.inj e]
          rfl
        have c48' : ((s[j].toNat : Int) == 48) = false := by simpa using c48
        have O : Hid _ := (out fin).out
        clear HK out gj fin
        by_cases big : 16 < j + 1
        · have E : Hid (R = .tuple #[.int .i64 0, .bool false]) := by
            show _ = _
            obtain ⟨a, b⟩ := O.out
            obtain ⟨t, c, e1, e2, e3, e4⟩ := b (by omega)
            rw [← HR.out, fcV, ← a, frO_noughts, e1, frO_long u t c UD.out (by omega) (AD.out c e4) e2]
          clear HR O
          go_wp2
          go_returns
          exact ⟨by rw [E.out]; rfl, Below.refl _ _⟩
        · have tk := ten_le (j + 1) (by omega)
          have vl := valR_lt (s.data.toList.take (j + 1)).reverse (fun c hc => AllD_take _ _ AD.out c (List.mem_reverse.mp hc))
          have ln : (s.data.toList.take (j + 1)).length = j + 1 := by rw [List.length_take, SL.out]; omega
          rw [List.length_reverse, ln] at vl
          have NM : Hid (∀ w, Calls Tryd.prog 31 #[.string (s.extract 0 (j + 1))] w fun e w' => e = .returned (.tuple #[.int .i64 ((valR (s.data.toList.take (j + 1)).reverse : Nat) : Int), .bool (!(s.extract 0 (j + 1)).toList.isEmpty)]) ∧ w' = w) := fun w => by
            have q := numberR_of (s.extract 0 (j + 1)) w (by rw [ByteArray.size_extract]; omega)
            have r := rn_val (s.data.toList.take (j + 1)) 0 (AllD_take _ _ AD.out) (by omega)
            rw [rnV, q_ext, List.drop_zero] at q
            rw [show ((0 : Nat) : Int) = 0 from rfl, Nat.zero_mul, Nat.zero_add] at r
            rwa [r] at q
          have RV : Hid (R = if u * valR (s.data.toList.take (j + 1)).reverse % 10 ^ (j + 1) = 0 then .tuple #[.int .i64 ((u * valR (s.data.toList.take (j + 1)).reverse / 10 ^ (j + 1) : Nat) : Int), .bool (decide (0 < s.size))] else .tuple #[.int .i64 0, .bool false]) := by
            show _ = _
            have a := O.out.1
            have f : frO u s.data.toList = frO u (s.data.toList.take (j + 1)) := by
              have := frO_noughts u (s.size - (j + 1)) (s.data.toList.take (j + 1))
              rwa [a] at this
            rw [← HR.out, fcV, f, frO, ln, SL.out]
            split
            · next g =>
              split at g
              · cases g
              · next q => rw [if_neg q]
            · next g =>
              split at g
              · next q => rw [if_pos q]; cases g; rfl
              · cases g
          clear HR O
          generalize valR (s.data.toList.take (j + 1)).reverse = X at *
          generalize hP : 10 ^ (j + 1) = P at *
          have HP : Hid (10 ^ (j + 1) = P) := hP
          clear hP ln
          generalize hx : s.extract 0 (j + 1) = sx at *
          have HX : Hid (s.extract 0 (j + 1) = sx) := hx
          clear hx
          go_wp2_with fail
          first | (rw [HX.out]) | skip
          refine (NM.out _).mono ?_
          rintro e w1 ⟨rfl, rfl⟩
          go_wp2_with fail
          go_loop [9, 10] (fun vt vi => ∃ i T : Nat, i ≤ j + 1 ∧ 1 ≤ T ∧ T ≤ 10000000000000000 ∧ vt = .int .i64 (T : Int) ∧ vi = .int .i64 i ∧ Hid (10 ^ i = T)) (fun _ vi => (j + 1) - (intOf vi).toNat)
          case atStart => exact ⟨0, 1, Nat.zero_le _, by omega, by omega, rfl, rfl, rfl⟩
          case round =>
            obtain ⟨i, T, hi, tp, ti, rfl, rfl, HT⟩ := hrel
            by_cases il : i < j + 1
            · have il' : (i : Int) < ((j + 1 : Nat) : Int) := by omega
              have PS : Hid (10 ^ (i + 1) = 10 * T ∧ 10 * T ≤ 10000000000000000) := by
                have e : 10 ^ (i + 1) = 10 * T := by rw [Nat.pow_succ, HT.out, Nat.mul_comm]
                refine ⟨e, ?_⟩
                rw [← e]
                exact ten_le (i + 1) (by omega)
              obtain ⟨ps1, ps2⟩ := PS.out
              have PS1 : Hid (10 ^ (i + 1) = 10 * T) := ps1
              clear ps1 PS HT
              go_wp2
              go_round
              case rel =>
                go_light
                exact ⟨i + 1, 10 * T, by omega, by omega, by omega, by go_num, by go_num, PS1⟩
              case measure => simp [intOf]; omega
            · have ie : i = j + 1 := by omega
              have pt : P = T := by rw [← HP.out, ← HT.out, ie]
              subst pt
              have ig : ¬ (i : Int) < ((j + 1 : Nat) : Int) := by omega
              have CM : Hid _ := fun w => commonR_of u (P) (by omega) (by omega) w
              have GC : Hid _ := frO_gcd u X i
              rw [HT.out] at GC
              have g1 : 1 ≤ Nat.gcd u (P) := Nat.gcd_pos_of_pos_right _ tp
              have ga : Nat.gcd u (P) ∣ P := Nat.gcd_dvd_right _ _
              have gu : Nat.gcd u (P) ∣ u := Nat.gcd_dvd_left _ _
              have gl : Nat.gcd u (P) ≤ u := Nat.le_of_dvd (by omega) gu
              have A1 : 1 ≤ P / Nat.gcd u (P) := Nat.div_pos (Nat.le_of_dvd (by omega) ga) g1
              have A2 : P / Nat.gcd u (P) ≤ P := Nat.div_le_self _ _
              have A3 : u / Nat.gcd u (P) ≤ u := Nat.div_le_self _ _
              have LE : Hid (u * X / P ≤ u) := by
                show _ ≤ _
                refine Nat.le_of_lt_succ (Nat.div_lt_of_lt_mul ?_)
                have q : u * X ≤ u * P := Nat.mul_le_mul_left _ (Nat.le_of_lt vl)
                rw [Nat.mul_succ, Nat.mul_comm (P) u]
                omega
              clear ie hi il ga gu HT
              have wT : (P : Int) / ((Nat.gcd u P : Nat) : Int) = ((P / Nat.gcd u P : Nat) : Int) := by push_cast; rfl
              have wU : (u : Int) / ((Nat.gcd u P : Nat) : Int) = ((u / Nat.gcd u P : Nat) : Int) := by push_cast; rfl
              generalize Nat.gcd u P = G at *
              generalize hA : P / G = A at *
              generalize hB : u / G = Bq at *
              have wM : (X : Int) % (A : Int) = ((X % A : Nat) : Int) := by push_cast; rfl
              have wQ : (X : Int) / (A : Int) = ((X / A : Nat) : Int) := by push_cast; rfl
              have mb : X % A < A := Nat.mod_lt _ (by omega)
              have qb : X / A ≤ X := Nat.div_le_self _ _
              go_wp2_with fail
              refine (CM.out _).mono ?_
              rintro e w2 ⟨rfl, hb2⟩
              have BB : Hid (Below w1.heap.size w1 w2) := hb2
              clear hb2
              have w1T : wrap64 ((P : Int) / (G : Int)) = (A : Int) := by rw [wT]; exact w64_nat A (Nat.le_trans A2 (Nat.le_trans ti (by decide)))
              have w1U : wrap64 ((u : Int) / (G : Int)) = (Bq : Int) := by rw [wU]; exact w64_nat Bq (Nat.le_trans A3 (Nat.le_trans hu2 (by decide)))
              have w1Q : wrap64 ((X : Int) / (A : Int)) = ((X / A : Nat) : Int) := by rw [wQ]; exact w64_nat (X / A) (Nat.le_trans qb (Nat.le_trans (Nat.le_of_lt vl) (Nat.le_trans ti (by decide))))
              by_cases z : X % A = 0
              · have z' : ((X : Int) % (A : Int) != 0) = false := by rw [wM, z]; rfl
                have g := GC.out.1.mp z
                have v := GC.out.2 g
                have E : Hid (R = .tuple #[.int .i64 ((X / A * Bq : Nat) : Int), .bool (decide (0 < s.size))]) := by
                  show _ = _
                  rw [RV.out, if_pos g, v]
                have pl : X / A * Bq ≤ u := by rw [v]; exact LE.out
                have w1P : wrap64 (((X / A : Nat) : Int) * (Bq : Int)) = ((X / A * Bq : Nat) : Int) := by
                  rw [← Int.natCast_mul]; exact w64_nat _ (Nat.le_trans pl (Nat.le_trans hu2 (by decide)))
                clear GC RV LE v g wT wU wM wQ mb qb hA hB pl z
                generalize X / A = Q at *
                have g1' : (1 : Int) ≤ (G : Int) := Int.ofNat_le.mpr g1
                have A1' : (1 : Int) ≤ (A : Int) := Int.ofNat_le.mpr A1
                have A2' : (A : Int) ≤ 10000000000000000 := Int.ofNat_le.mpr (Nat.le_trans A2 ti)
                clear g1 gl A1 A2 A3
                go_wp2_with fail
                go_quiet (fail)
                go_wp2
                go_returns
                refine ⟨?_, bdN BB.out _⟩
                rw [E.out]
                have wp2 : wrap64 ((Q : Int) * (Bq : Int)) = (Q : Int) * (Bq : Int) := by rw [w1P, Int.natCast_mul]
                simp [wp2]
              · have z' : ((X : Int) % (A : Int) != 0) = true := by
                  rw [wM, bne_iff_ne]
                  exact fun h => z (Int.natCast_eq_zero.mp h)
                have E : Hid (R = .tuple #[.int .i64 0, .bool false]) := by
                  show _ = _
                  rw [RV.out, if_neg (fun h => z (GC.out.1.mpr h))]
                clear GC RV LE wT wU wM wQ mb qb hA hB z
                have g1' : (1 : Int) ≤ (G : Int) := Int.ofNat_le.mpr g1
                have A1' : (1 : Int) ≤ (A : Int) := Int.ofNat_le.mpr A1
                have A2' : (A : Int) ≤ 10000000000000000 := Int.ofNat_le.mpr (Nat.le_trans A2 ti)
                clear g1 gl A1 A2 A3
                go_wp2
                go_returns
                exact ⟨by rw [E.out]; rfl, BB.out⟩
    · have O : Hid _ := (out (by
        rw [HK.out]
        have e0 : k = 0 := by omega
        rw [e0]
        simp [endN])).out
      clear HK out
      by_cases big : 16 < k
      · exfalso
        omega
      · have tk := ten_le (k) (by omega)
        have vl := valR_lt (s.data.toList.take (k)).reverse (fun c hc => AllD_take _ _ AD.out c (List.mem_reverse.mp hc))
        have ln : (s.data.toList.take (k)).length = k := by rw [List.length_take, SL.out]; omega
        rw [List.length_reverse, ln] at vl
        have NM : Hid (∀ w, Calls Tryd.prog 31 #[.string (s.extract 0 (k))] w fun e w' => e = .returned (.tuple #[.int .i64 ((valR (s.data.toList.take (k)).reverse : Nat) : Int), .bool (!(s.extract 0 (k)).toList.isEmpty)]) ∧ w' = w) := fun w => by
          have q := numberR_of (s.extract 0 (k)) w (by rw [ByteArray.size_extract]; omega)
          have r := rn_val (s.data.toList.take (k)) 0 (AllD_take _ _ AD.out) (by omega)
          rw [rnV, q_ext, List.drop_zero] at q
          rw [show ((0 : Nat) : Int) = 0 from rfl, Nat.zero_mul, Nat.zero_add] at r
          rwa [r] at q
        have RV : Hid (R = if u * valR (s.data.toList.take (k)).reverse % 10 ^ (k) = 0 then .tuple #[.int .i64 ((u * valR (s.data.toList.take (k)).reverse / 10 ^ (k) : Nat) : Int), .bool (decide (0 < s.size))] else .tuple #[.int .i64 0, .bool false]) := by
          show _ = _
          have a := O.out.1
          have f : frO u s.data.toList = frO u (s.data.toList.take (k)) := by
            have := frO_noughts u (s.size - (k)) (s.data.toList.take (k))
            rwa [a] at this
          rw [← HR.out, fcV, f, frO, ln, SL.out]
          split
          · next g =>
            split at g
            · cases g
            · next q => rw [if_neg q]
          · next g =>
            split at g
            · next q => rw [if_pos q]; cases g; rfl
            · cases g
        clear HR O
        generalize valR (s.data.toList.take (k)).reverse = X at *
        generalize hP : 10 ^ (k) = P at *
        have HP : Hid (10 ^ (k) = P) := hP
        clear hP ln
        generalize hx : s.extract 0 (k) = sx at *
        have HX : Hid (s.extract 0 (k) = sx) := hx
        clear hx
        go_wp2_with fail
        first | (rw [HX.out]) | skip
        refine (NM.out _).mono ?_
        rintro e w1 ⟨rfl, rfl⟩
        go_wp2_with fail
        go_loop [9, 10] (fun vt vi => ∃ i T : Nat, i ≤ k ∧ 1 ≤ T ∧ T ≤ 10000000000000000 ∧ vt = .int .i64 (T : Int) ∧ vi = .int .i64 i ∧ Hid (10 ^ i = T)) (fun _ vi => (k) - (intOf vi).toNat)
        case atStart => exact ⟨0, 1, Nat.zero_le _, by omega, by omega, rfl, rfl, rfl⟩
        case round =>
          obtain ⟨i, T, hi, tp, ti, rfl, rfl, HT⟩ := hrel
          by_cases il : i < k
          · have il' : (i : Int) < ((k : Nat) : Int) := by omega
            have PS : Hid (10 ^ (i + 1) = 10 * T ∧ 10 * T ≤ 10000000000000000) := by
              have e : 10 ^ (i + 1) = 10 * T := by rw [Nat.pow_succ, HT.out, Nat.mul_comm]
              refine ⟨e, ?_⟩
              rw [← e]
              exact ten_le (i + 1) (by omega)
            obtain ⟨ps1, ps2⟩ := PS.out
            have PS1 : Hid (10 ^ (i + 1) = 10 * T) := ps1
            clear ps1 PS HT
            go_wp2
            go_round
            case rel =>
              go_light
              exact ⟨i + 1, 10 * T, by omega, by omega, by omega, by go_num, by go_num, PS1⟩
            case measure => simp [intOf]; omega
          · have ie : i = k := by omega
            have pt : P = T := by rw [← HP.out, ← HT.out, ie]
            subst pt
            have ig : ¬ (i : Int) < ((k : Nat) : Int) := by omega
            have CM : Hid _ := fun w => commonR_of u (P) (by omega) (by omega) w
            have GC : Hid _ := frO_gcd u X i
            rw [HT.out] at GC
            have g1 : 1 ≤ Nat.gcd u (P) := Nat.gcd_pos_of_pos_right _ tp
            have ga : Nat.gcd u (P) ∣ P := Nat.gcd_dvd_right _ _
            have gu : Nat.gcd u (P) ∣ u := Nat.gcd_dvd_left _ _
            have gl : Nat.gcd u (P) ≤ u := Nat.le_of_dvd (by omega) gu
            have A1 : 1 ≤ P / Nat.gcd u (P) := Nat.div_pos (Nat.le_of_dvd (by omega) ga) g1
            have A2 : P / Nat.gcd u (P) ≤ P := Nat.div_le_self _ _
            have A3 : u / Nat.gcd u (P) ≤ u := Nat.div_le_self _ _
            have LE : Hid (u * X / P ≤ u) := by
              show _ ≤ _
              refine Nat.le_of_lt_succ (Nat.div_lt_of_lt_mul ?_)
              have q : u * X ≤ u * P := Nat.mul_le_mul_left _ (Nat.le_of_lt vl)
              rw [Nat.mul_succ, Nat.mul_comm (P) u]
              omega
            clear ie hi il ga gu HT
            have wT : (P : Int) / ((Nat.gcd u P : Nat) : Int) = ((P / Nat.gcd u P : Nat) : Int) := by push_cast; rfl
            have wU : (u : Int) / ((Nat.gcd u P : Nat) : Int) = ((u / Nat.gcd u P : Nat) : Int) := by push_cast; rfl
            generalize Nat.gcd u P = G at *
            generalize hA : P / G = A at *
            generalize hB : u / G = Bq at *
            have wM : (X : Int) % (A : Int) = ((X % A : Nat) : Int) := by push_cast; rfl
            have wQ : (X : Int) / (A : Int) = ((X / A : Nat) : Int) := by push_cast; rfl
            have mb : X % A < A := Nat.mod_lt _ (by omega)
            have qb : X / A ≤ X := Nat.div_le_self _ _
            go_wp2_with fail
            refine (CM.out _).mono ?_
            rintro e w2 ⟨rfl, hb2⟩
            have BB : Hid (Below w1.heap.size w1 w2) := hb2
            clear hb2
            have w1T : wrap64 ((P : Int) / (G : Int)) = (A : Int) := by rw [wT]; exact w64_nat A (Nat.le_trans A2 (Nat.le_trans ti (by decide)))
            have w1U : wrap64 ((u : Int) / (G : Int)) = (Bq : Int) := by rw [wU]; exact w64_nat Bq (Nat.le_trans A3 (Nat.le_trans hu2 (by decide)))
            have w1Q : wrap64 ((X : Int) / (A : Int)) = ((X / A : Nat) : Int) := by rw [wQ]; exact w64_nat (X / A) (Nat.le_trans qb (Nat.le_trans (Nat.le_of_lt vl) (Nat.le_trans ti (by decide))))
            by_cases z : X % A = 0
            · have z' : ((X : Int) % (A : Int) != 0) = false := by rw [wM, z]; rfl
              have g := GC.out.1.mp z
              have v := GC.out.2 g
              have E : Hid (R = .tuple #[.int .i64 ((X / A * Bq : Nat) : Int), .bool (decide (0 < s.size))]) := by
                show _ = _
                rw [RV.out, if_pos g, v]
              have pl : X / A * Bq ≤ u := by rw [v]; exact LE.out
              have w1P : wrap64 (((X / A : Nat) : Int) * (Bq : Int)) = ((X / A * Bq : Nat) : Int) := by
                rw [← Int.natCast_mul]; exact w64_nat _ (Nat.le_trans pl (Nat.le_trans hu2 (by decide)))
              clear GC RV LE v g wT wU wM wQ mb qb hA hB pl z
              generalize X / A = Q at *
              have g1' : (1 : Int) ≤ (G : Int) := Int.ofNat_le.mpr g1
              have A1' : (1 : Int) ≤ (A : Int) := Int.ofNat_le.mpr A1
              have A2' : (A : Int) ≤ 10000000000000000 := Int.ofNat_le.mpr (Nat.le_trans A2 ti)
              clear g1 gl A1 A2 A3
              go_wp2_with fail
              go_quiet (fail)
              go_wp2
              go_returns
              refine ⟨?_, bdN BB.out _⟩
              rw [E.out]
              have wp2 : wrap64 ((Q : Int) * (Bq : Int)) = (Q : Int) * (Bq : Int) := by rw [w1P, Int.natCast_mul]
              simp [wp2]
            · have z' : ((X : Int) % (A : Int) != 0) = true := by
                rw [wM, bne_iff_ne]
                exact fun h => z (Int.natCast_eq_zero.mp h)
              have E : Hid (R = .tuple #[.int .i64 0, .bool false]) := by
                show _ = _
                rw [RV.out, if_neg (fun h => z (GC.out.1.mpr h))]
              clear GC RV LE wT wU wM wQ mb qb hA hB z
              have g1' : (1 : Int) ≤ (G : Int) := Int.ofNat_le.mpr g1
              have A1' : (1 : Int) ≤ (A : Int) := Int.ofNat_le.mpr A1
              have A2' : (A : Int) ≤ 10000000000000000 := Int.ofNat_le.mpr (Nat.le_trans A2 ti)
              clear g1 gl A1 A2 A3
              go_wp2
              go_returns
              exact ⟨by rw [E.out]; rfl, BB.out⟩
end Go.Proofs.YtpdnlojennhmpaaDoor
