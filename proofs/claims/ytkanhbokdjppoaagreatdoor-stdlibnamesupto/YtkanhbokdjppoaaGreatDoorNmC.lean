/- The document's names and number of a name; no statement of the seat is proved here. -/
import Derived.Test.YtkanhbokdjppoaaGreatDoorStdV
import Derived.Test.YtkanhbokdjppoaaGreatDoorWdB
namespace Go.Proofs.YtkanhbokdjppoaaGreatDoor
set_option linter.unusedVariables false
open Go.RowKit
/-- The names in memory. -/
def NmR (w : World) (g : Nat) : Prop := NmAt w g 37 fun k => (fuT k).nm
set_option maxRecDepth 20000 in
set_option maxHeartbeats 1000000 in
theorem namesR_of (w : World) : Calls Tryz.prog 31 #[] w fun e w' => e = .returned (.slice (some ⟨w.heap.size, 0, none⟩) 37 37) ∧ NmR w' w.heap.size ∧ Below w.heap.size w w' := by
  go_enter Tryz.func31, Tryz.ntmps31
  go_wp2
  go_ret
  refine ⟨rfl, ?_, (Below.refl _ _).alloc (Nat.le_refl _) _⟩
  intro i hi
  have h := heap_alloc_last w
  simp only [World.cell?, h]
  match i, hi with
  | 0, _ => rfl
  | 1, _ => rfl
  | 2, _ => rfl
  | 3, _ => rfl
  | 4, _ => rfl
  | 5, _ => rfl
  | 6, _ => rfl
  | 7, _ => rfl
  | 8, _ => rfl
  | 9, _ => rfl
  | 10, _ => rfl
  | 11, _ => rfl
  | 12, _ => rfl
  | 13, _ => rfl
  | 14, _ => rfl
  | 15, _ => rfl
  | 16, _ => rfl
  | 17, _ => rfl
  | 18, _ => rfl
  | 19, _ => rfl
  | 20, _ => rfl
  | 21, _ => rfl
  | 22, _ => rfl
  | 23, _ => rfl
  | 24, _ => rfl
  | 25, _ => rfl
  | 26, _ => rfl
  | 27, _ => rfl
  | 28, _ => rfl
  | 29, _ => rfl
  | 30, _ => rfl
  | 31, _ => rfl
  | 32, _ => rfl
  | 33, _ => rfl
  | 34, _ => rfl
  | 35, _ => rfl
  | 36, _ => rfl
  | n + 37, h => omega
set_option maxRecDepth 20000 in
set_option maxHeartbeats 2000000 in
theorem numberR_K (K : Nat) (h1 : 1 ≤ K) (h2 : K < 37) (nm : ByteArray) (he : (fuT K).nm = nm) (hn : ∀ k, 1 ≤ k → k < K → ((fuT k).nm.toList == nm.toList) = false) (w : World) :
    Calls Tryz.prog 25 #[.string nm] w fun e w' => e = .returned (.tuple #[.int .i64 K, .int .u8 0]) ∧ Below w.heap.size w w' := by
  have HE : Hid _ := he
  have HN : Hid _ := hn
  clear he hn
  go_enter Tryz.func25, Tryz.ntmps25
  go_wp2_with (first | (go_at_call 31; refine (namesR_of _).mono ?_; rintro e w1 ⟨rfl, hr, hb⟩; have HB : Hid _ := hb; have HR : Hid (NmR w1 w.heap.size) := hr; clear hb hr))
  go_loopw [15] (fun i wr => ∃ k : Nat, k ≤ K ∧ i = .int .i64 k ∧ wr = w1) (fun i _ => K - (intOf i).toNat)
  case atStart => exact ⟨0, Nat.zero_le _, rfl, rfl⟩
  case round =>
    obtain ⟨k, hk, rfl, hw⟩ := hrel
    subst hw
    have k37 : (k : Int) < 37 := by omega
    by_cases hlt : k < K
    · have HNk : Hid (1 ≤ k → ((fuT k).nm.toList == nm.toList) = false) := fun h => HN.out k h hlt
      have d : wr.cell? ⟨w.heap.size, k, none⟩ = some (.string (fuT k).nm) := HR.out k (by omega)
      generalize (fuT k).nm = x at *
      by_cases h0 : k = 0
      · subst h0
        clear HNk
        cases ex : (x.toList == nm.toList)
        all_goals
          go_wp2
          exact ⟨⟨1, by omega, rfl, (by first | rfl | trivial)⟩, by simp [intOf]; omega⟩
      · have hn := HNk.out (by omega)
        have kp : (0 : Int) < k := by omega
        clear HNk
        go_wp2
        exact ⟨⟨k + 1, by omega, by go_num, (by first | rfl | trivial)⟩, by simp [intOf]; omega⟩
    · obtain rfl : k = K := by omega
      have he := HE.out
      have d : wr.cell? ⟨w.heap.size, k, none⟩ = some (.string (fuT k).nm) := HR.out k (by omega)
      rw [he] at d
      have kp : (0 : Int) < k := by omega
      clear HN HE
      go_wp2
      go_ret2
      exact ⟨rfl, HB.out⟩
/-- A look at one place of a name: is it _TO_ between two kinds' words? -/
def cvS (nm : ByteArray) (i : Nat) : Option (Int × Int) := if (nm.extract i (i + 4)).toList == [95, 84, 79, 95] then (match kfind (nm.extract 0 i) 1 19 with
  | none => none
  | some fr => match kfind (nm.extract (i + 4) nm.size) 1 19 with
    | none => none
    | some kt => some (64 + kt, fr)) else none
/-- The first such place, from one on. -/
def cvF (nm : ByteArray) : Nat → Nat → Option (Int × Int)
  | _, 0 => none
  | i, f + 1 => match cvS nm i with
    | some r => some r
    | none => cvF nm (i + 1) f
theorem cvF_zero (nm : ByteArray) (i : Nat) : cvF nm i 0 = none := by unfold cvF; rfl
theorem cvF_succ (nm : ByteArray) (i f : Nat) : cvF nm i (f + 1) = match cvS nm i with | some r => some r | none => cvF nm (i + 1) f := by conv => lhs; unfold cvF
/-- A name that begins with TO_. -/
def cvT (nm : ByteArray) : Int × Int := if decide (3 < nm.size) && ((nm.extract 0 3).toList == [84, 79, 95]) then (match kfind (nm.extract 3 nm.size) 1 19 with
  | none => (0, 0)
  | some kt => (64 + kt, 0)) else (0, 0)
/-- The document's number of a name that is none of the table's. -/
def cvR (nm : ByteArray) : Int × Int := match cvF nm 0 (nm.size - 3) with
  | some r => r
  | none => cvT nm
theorem cv_next {nm : ByteArray} {j m : Nat} {X : Option (Int × Int)} (h : X = match cvS nm j with | some r => some r | none => cvF nm (j + 1) m) (n : cvS nm j = none) {M : Nat} (e : M = m) : X = cvF nm (j + 1) M := by rw [h, n, e]
theorem meas_j (j n : Nat) (h : j < n) : n - (intOf (.int .i64 ((j : Int) + 1))).toNat < n - (intOf (.int .i64 (j : Int))).toNat := by simp [intOf]; omega
theorem kd_none' {s : ByteArray} (h : kfind s 1 19 = none) : kdR s = .tuple #[.int .u8 0, .bool false] := by unfold kdR; rw [h]
theorem kd_some' {s : ByteArray} {i : Nat} (h : kfind s 1 19 = some i) : kdR s = .tuple #[.int .u8 i, .bool true] := by unfold kdR; rw [h]
theorem kd_any' (s : ByteArray) : ∃ (i : Nat) (b : Bool), kdR s = .tuple #[.int .u8 i, .bool b] := by
  cases h : kfind s 1 19 with
  | none => exact ⟨0, _, kd_none' h⟩
  | some i => exact ⟨i, _, kd_some' h⟩
theorem kfind_le' (s : ByteArray) : ∀ (f i j : Nat), kfind s i f = some j → i ≤ j ∧ j < i + f
  | 0, i, j, h => by simp [kfind] at h
  | f + 1, i, j, h => by
    unfold kfind at h
    split at h
    · cases h; omega
    · have := kfind_le' s f (i + 1) j h; omega
set_option maxRecDepth 20000 in
set_option maxHeartbeats 4000000 in
theorem numberR_cv (nm : ByteArray) (hno : ∀ k, 1 ≤ k → k < 37 → ((fuT k).nm.toList == nm.toList) = false) (w : World) (hs : nm.size < 4294967281) :
    Calls Tryz.prog 25 #[.string nm] w fun e w' => e = .returned (.tuple #[.int .i64 (cvR nm).1, .int .u8 (cvR nm).2]) ∧ Below w.heap.size w w' := by
  have HN : Hid _ := hno
  have HSZ : Hid (nm.size < 4294967281) := hs
  clear hno hs
  go_enter Tryz.func25, Tryz.ntmps25
  go_wp2_with (first | (go_at_call 31; refine (namesR_of _).mono ?_; rintro e w1 ⟨rfl, hr, hb⟩; have HB : Hid _ := hb; have HR : Hid (NmR w1 w.heap.size) := hr; clear hb hr))
  go_loopw [15] (fun i wr => ∃ k : Nat, k ≤ 37 ∧ i = .int .i64 k ∧ wr = w1) (fun i _ => 37 - (intOf i).toNat)
  case atStart => exact ⟨0, Nat.zero_le _, rfl, rfl⟩
  case round =>
    obtain ⟨k, hk, rfl, hw⟩ := hrel
    subst hw
    by_cases hlt : k < 37
    · have k37 : (k : Int) < 37 := by omega
      have HNk : Hid (1 ≤ k → ((fuT k).nm.toList == nm.toList) = false) := fun h => HN.out k h hlt
      have d : wr.cell? ⟨w.heap.size, k, none⟩ = some (.string (fuT k).nm) := HR.out k (by omega)
      generalize (fuT k).nm = x at *
      by_cases h0 : k = 0
      · subst h0
        clear HNk
        cases ex : (x.toList == nm.toList)
        all_goals
          go_wp2
          exact ⟨⟨1, by omega, rfl, (by first | rfl | trivial)⟩, by simp [intOf]⟩
      · have hn := HNk.out (by omega)
        have kp : (0 : Int) < k := by omega
        clear HNk
        go_wp2
        exact ⟨⟨k + 1, by omega, by go_num, (by first | rfl | trivial)⟩, by simp [intOf]; omega⟩
    · obtain rfl : k = 37 := by omega
      clear HN
      go_wp2_with fail
      go_loopw [6] (fun i wq => ∃ j : Nat, j ≤ nm.size ∧ i = .int .i64 j ∧ Below w.heap.size w wq ∧ cvF nm 0 (nm.size - 3) = cvF nm j (nm.size - 3 - j)) (fun i _ => nm.size - (intOf i).toNat)
      case atStart => exact ⟨0, Nat.zero_le _, rfl, HB.out, by rw [Nat.sub_zero]⟩
      case round =>
        obtain ⟨j, hj, rfl, hb, hf⟩ := hrel
        have HB : Hid (Below w.heap.size w wr) := hb
        have HF : Hid (cvF nm 0 (nm.size - 3) = cvF nm j (nm.size - 3 - j)) := hf
        clear hb hf
        have w4 : wrap64 ((j : Int) + 4) = (j : Int) + 4 := by have := HSZ.out; unfold wrap64; omega
        have w1 : wrap64 ((j : Int) + 1) = (j : Int) + 1 := by have := HSZ.out; unfold wrap64; omega
        by_cases hlt : j + 4 ≤ nm.size
        · have l4 : (j : Int) + 4 ≤ nm.size := by omega
          have lj : (j : Int) ≤ nm.size := by omega
          have mn : min (nm.size : Int) ((j : Int) + 4) = (j : Int) + 4 := by omega
          have mt : ((j : Int) + 4).toNat = j + 4 := by omega
          have nj : (0 : Int) ≤ j := by omega
          obtain ⟨m, em⟩ : ∃ m, nm.size - 3 - j = m + 1 := ⟨nm.size - 4 - j, by omega⟩
          have EM : Hid (nm.size - 3 - (j + 1) = m) := by show nm.size - 3 - (j + 1) = m; omega
          have ST : Hid (cvF nm 0 (nm.size - 3) = match cvS nm j with | some r => some r | none => cvF nm (j + 1) m) := by
            show cvF nm 0 (nm.size - 3) = _; rw [HF.out, em, cvF_succ]
          clear HF em
          cases p : ((nm.extract j (j + 4)).toList == [95, 84, 79, 95])
          · have N : Hid (cvS nm j = none) := by show cvS nm j = none; unfold cvS; rw [p]; rfl
            have NX : Hid (cvF nm 0 (nm.size - 3) = cvF nm (j + 1) (nm.size - 3 - (j + 1))) := cv_next ST.out N.out EM.out
            have pn : ((nm.extract j (j + 4)).toList != [95, 84, 79, 95]) = true := by simp only [bne, p]; rfl
            go_wp2
            exact ⟨⟨j + 1, by omega, congrArg (Value.int .i64) (w1.trans (Int.natCast_succ j).symm), HB.out, NX.out⟩, by rw [w1]; exact meas_j j nm.size (by omega)⟩
          · have pn : ((nm.extract j (j + 4)).toList != [95, 84, 79, 95]) = false := by simp only [bne, p]; rfl
            have KA : Hid (∀ w, Calls Tryz.prog 42 #[.string (nm.extract 0 j)] w fun e w' => e = .returned (kdR (nm.extract 0 j)) ∧ Below w.heap.size w w') := fun w => KindR_of _ w
            have KB : Hid (∀ w, Calls Tryz.prog 42 #[.string (nm.extract (j + 4) nm.size)] w fun e w' => e = .returned (kdR (nm.extract (j + 4) nm.size)) ∧ Below w.heap.size w w') := fun w => KindR_of _ w
            have SV : Hid (cvS nm j = (match kfind (nm.extract 0 j) 1 19 with
              | none => none
              | some fr => match kfind (nm.extract (j + 4) nm.size) 1 19 with
                | none => none
                | some kt => some (64 + kt, fr))) := by show cvS nm j = _; unfold cvS; rw [p]; rfl
            go_wp2_with fail
            clear p pn
            refine (KA.out _).mono ?_
            rintro e w6 ⟨rfl, hb6⟩
            have B6 : Hid (Below w.heap.size w w6) := HB.out.trans (hb6.mono HB.out.size)
            clear hb6 KA
            cases ka : kfind (nm.extract 0 j) 1 19 with
            | none =>
              have kd := kd_none' ka
              have N : Hid (cvS nm j = none) := by show cvS nm j = none; rw [SV.out, ka]
              have NX : Hid (cvF nm 0 (nm.size - 3) = cvF nm (j + 1) (nm.size - 3 - (j + 1))) := cv_next ST.out N.out EM.out
              rw [kd]
              obtain ⟨kb1, kb2, kb⟩ := kd_any' (nm.extract (j + 4) nm.size)
              rw [kb] at KB
              clear kd ka kb SV
              go_wp2_with fail
              refine (KB.out _).mono ?_
              rintro e w7 ⟨rfl, hb7⟩
              have B7 : Hid (Below w.heap.size w w7) := B6.out.trans (hb7.mono B6.out.size)
              clear hb7 KB
              go_wp2
              go_roundw
              case rel => (repeat apply Exists.intro); exact ⟨⟨j + 1, by omega, congrArg (Value.int .i64) (w1.trans (Int.natCast_succ j).symm), B7.out, NX.out⟩, rfl⟩
              case measure => rw [w1]; exact meas_j j nm.size (by omega)
            | some fr =>
              have kd := kd_some' ka
              rw [kd]
              cases kb : kfind (nm.extract (j + 4) nm.size) 1 19 with
              | none =>
                have kd2 := kd_none' kb
                have N : Hid (cvS nm j = none) := by show cvS nm j = none; rw [SV.out, ka, kb]
                have NX : Hid (cvF nm 0 (nm.size - 3) = cvF nm (j + 1) (nm.size - 3 - (j + 1))) := cv_next ST.out N.out EM.out
                rw [kd2] at KB
                clear kd kd2 ka kb SV
                go_wp2_with fail
                refine (KB.out _).mono ?_
                rintro e w7 ⟨rfl, hb7⟩
                have B7 : Hid (Below w.heap.size w w7) := B6.out.trans (hb7.mono B6.out.size)
                clear hb7 KB
                go_wp2
                go_roundw
                case rel => (repeat apply Exists.intro); exact ⟨⟨j + 1, by omega, congrArg (Value.int .i64) (w1.trans (Int.natCast_succ j).symm), B7.out, NX.out⟩, rfl⟩
                case measure => rw [w1]; exact meas_j j nm.size (by omega)
              | some kt =>
                have kd2 := kd_some' kb
                have N : Hid (cvR nm = (64 + (kt : Int), (fr : Int))) := by show cvR nm = _; unfold cvR; rw [ST.out, SV.out, ka, kb]
                rw [kd2] at KB
                have kr := kfind_le' _ _ _ _ kb
                have kr1 : (kt : Int) ≤ 19 := by omega
                clear kd kd2 ka kb SV kr
                go_wp2_with fail
                refine (KB.out _).mono ?_
                rintro e w7 ⟨rfl, hb7⟩
                have B7 : Hid (Below w.heap.size w w7) := B6.out.trans (hb7.mono B6.out.size)
                clear hb7 KB
                go_wp2
                go_ret2
                exact ⟨by rw [N.out]; rfl, B7.out⟩
        · have l4 : ¬ (j : Int) + 4 ≤ nm.size := by omega
          have F : Hid (cvR nm = cvT nm) := by
            show cvR nm = cvT nm; unfold cvR; rw [HF.out, show nm.size - 3 - j = 0 by omega, cvF_zero]
          clear HF
          have PT : Hid (cvR nm = cvT nm) := F.out
          by_cases l3 : 3 < nm.size
          · have l3' : (3 : Int) < nm.size := by omega
            have l3'' : (3 : Int) ≤ nm.size := by omega
            cases q : ((nm.extract 0 3).toList == [84, 79, 95])
            · have N : Hid (cvR nm = (0, 0)) := by show cvR nm = _; rw [PT.out]; unfold cvT; rw [q]; simp
              go_wp2
              go_ret2
              exact ⟨by rw [N.out]; rfl, HB.out⟩
            · have KA : Hid (∀ w, Calls Tryz.prog 42 #[.string (nm.extract 3 nm.size)] w fun e w' => e = .returned (kdR (nm.extract 3 nm.size)) ∧ Below w.heap.size w w') := fun w => KindR_of _ w
              cases ka : kfind (nm.extract 3 nm.size) 1 19 with
              | none =>
                have kd := kd_none' ka
                have N : Hid (cvR nm = (0, 0)) := by show cvR nm = _; rw [PT.out]; unfold cvT; rw [q, ka]; simp
                rw [kd] at KA
                clear kd ka
                go_wp2_with fail
                refine (KA.out _).mono ?_
                rintro e w6 ⟨rfl, hb6⟩
                have B6 : Hid (Below w.heap.size w w6) := HB.out.trans (hb6.mono HB.out.size)
                clear hb6
                go_wp2
                go_ret2
                exact ⟨by rw [N.out]; rfl, B6.out⟩
              | some kt =>
                have kd := kd_some' ka
                have N : Hid (cvR nm = (64 + (kt : Int), 0)) := by show cvR nm = _; rw [PT.out]; unfold cvT; rw [q, ka]; simp [l3]
                have kr := kfind_le' _ _ _ _ ka
                have kr1 : (kt : Int) ≤ 19 := by omega
                rw [kd] at KA
                clear kd ka kr
                go_wp2_with fail
                refine (KA.out _).mono ?_
                rintro e w6 ⟨rfl, hb6⟩
                have B6 : Hid (Below w.heap.size w w6) := HB.out.trans (hb6.mono HB.out.size)
                clear hb6
                go_wp2
                go_ret2
                exact ⟨by rw [N.out]; rfl, B6.out⟩
          · have l3' : ¬ (3 : Int) < nm.size := by omega
            have N : Hid (cvR nm = (0, 0)) := by show cvR nm = _; rw [PT.out]; unfold cvT; simp [l3]
            go_wp2
            go_ret2
            exact ⟨by rw [N.out]; rfl, HB.out⟩
end Go.Proofs.YtkanhbokdjppoaaGreatDoor
