/- The number of a name on both sides, and what the program's Find answers; no statement of the seat is proved here. -/
import Derived.Test.YtpaibmganlaaeaaGreatDoorFz20
import Derived.Test.YtpaibmganlaaeaaGreatDoorFz21
namespace Go.Proofs.YtpaibmganlaaeaaGreatDoor
set_option linter.unusedVariables false
open Go.RowKit
/-- The names in memory. -/
def NmR (w : World) (g : Nat) : Prop := NmAt w g 37 fun k => (fuT k).nm
set_option maxRecDepth 20000 in
set_option maxHeartbeats 1000000 in
theorem namesR_of (w : World) : Calls Tryz.prog 26 #[] w fun e w' => e = .returned (.slice (some ⟨w.heap.size, 0, none⟩) 37 37) ∧ NmR w' w.heap.size ∧ Below w.heap.size w w' := by
  go_enter Tryz.func26, Tryz.ntmps26
  go_wp2
  go_ret
  refine ⟨rfl, ?_, (Below.refl _ _).alloc (Nat.le_refl _) _⟩
  intro i hi
  have h := heap_alloc_last w
  simp only [World.cell?, h]
  match i, hi with
  | 0, _ => rfl
  | 1, _ => rfl
  | 2, _ => rfl
  | 3, _ => rfl
  | 4, _ => rfl
  | 5, _ => rfl
  | 6, _ => rfl
  | 7, _ => rfl
  | 8, _ => rfl
  | 9, _ => rfl
  | 10, _ => rfl
  | 11, _ => rfl
  | 12, _ => rfl
  | 13, _ => rfl
  | 14, _ => rfl
  | 15, _ => rfl
  | 16, _ => rfl
  | 17, _ => rfl
  | 18, _ => rfl
  | 19, _ => rfl
  | 20, _ => rfl
  | 21, _ => rfl
  | 22, _ => rfl
  | 23, _ => rfl
  | 24, _ => rfl
  | 25, _ => rfl
  | 26, _ => rfl
  | 27, _ => rfl
  | 28, _ => rfl
  | 29, _ => rfl
  | 30, _ => rfl
  | 31, _ => rfl
  | 32, _ => rfl
  | 33, _ => rfl
  | 34, _ => rfl
  | 35, _ => rfl
  | 36, _ => rfl
  | n + 37, h => omega
set_option maxRecDepth 20000 in
set_option maxHeartbeats 2000000 in
theorem numberR_K (K : Nat) (h1 : 1 ≤ K) (h2 : K < 37) (nm : ByteArray) (he : (fuT K).nm = nm) (hn : ∀ k, 1 ≤ k → k < K → ((fuT k).nm.toList == nm.toList) = false) (w : World) :
    Calls Tryz.prog 13 #[.string nm] w fun e w' => e = .returned (.tuple #[.int .i64 K, .int .u8 0]) ∧ Below w.heap.size w w' := by
  have HE : Hid _ := he
  have HN : Hid _ := hn
  clear he hn
  go_enter Tryz.func13, Tryz.ntmps13
  go_wp2_with (first | (go_at_call 26; refine (namesR_of _).mono ?_; rintro e w1 ⟨rfl, hr, hb⟩; have HB : Hid _ := hb; have HR : Hid (NmR w1 w.heap.size) := hr; clear hb hr))
  go_loopw [15] (fun i wr => ∃ k : Nat, k ≤ K ∧ i = .int .i64 k ∧ wr = w1) (fun i _ => K - (intOf i).toNat)
  case atStart => exact ⟨0, Nat.zero_le _, rfl, rfl⟩
  case round =>
    obtain ⟨k, hk, rfl, hw⟩ := hrel
    subst hw
    have k37 : (k : Int) < 37 := by omega
    by_cases hlt : k < K
    · have HNk : Hid (1 ≤ k → ((fuT k).nm.toList == nm.toList) = false) := fun h => HN.out k h hlt
      have d : wr.cell? ⟨w.heap.size, k, none⟩ = some (.string (fuT k).nm) := HR.out k (by omega)
      generalize (fuT k).nm = x at *
      by_cases h0 : k = 0
      · subst h0
        clear HNk
        cases ex : (x.toList == nm.toList)
        all_goals
          go_wp2
          exact ⟨⟨1, by omega, rfl, (by first | rfl | trivial)⟩, by simp [intOf]; omega⟩
      · have hn := HNk.out (by omega)
        have kp : (0 : Int) < k := by omega
        clear HNk
        go_wp2
        exact ⟨⟨k + 1, by omega, by go_num, (by first | rfl | trivial)⟩, by simp [intOf]; omega⟩
    · obtain rfl : k = K := by omega
      have he := HE.out
      have d : wr.cell? ⟨w.heap.size, k, none⟩ = some (.string (fuT k).nm) := HR.out k (by omega)
      rw [he] at d
      have kp : (0 : Int) < k := by omega
      clear HN HE
      go_wp2
      go_ret2
      exact ⟨rfl, HB.out⟩
/-- A look at one place of a name: is it _TO_ between two kinds' words? -/
def cvS (nm : ByteArray) (i : Nat) : Option (Int × Int) := if (nm.extract i (i + 4)).toList == [95, 84, 79, 95] then (match kfind (nm.extract 0 i) 1 19 with
  | none => none
  | some fr => match kfind (nm.extract (i + 4) nm.size) 1 19 with
    | none => none
    | some kt => some (64 + kt, fr)) else none
/-- The first such place, from one on. -/
def cvF (nm : ByteArray) : Nat → Nat → Option (Int × Int)
  | _, 0 => none
  | i, f + 1 => match cvS nm i with
    | some r => some r
    | none => cvF nm (i + 1) f
theorem cvF_zero (nm : ByteArray) (i : Nat) : cvF nm i 0 = none := by unfold cvF; rfl
theorem cvF_succ (nm : ByteArray) (i f : Nat) : cvF nm i (f + 1) = match cvS nm i with | some r => some r | none => cvF nm (i + 1) f := by conv => lhs; unfold cvF
/-- A name that begins with TO_. -/
def cvT (nm : ByteArray) : Int × Int := if decide (3 < nm.size) && ((nm.extract 0 3).toList == [84, 79, 95]) then (match kfind (nm.extract 3 nm.size) 1 19 with
  | none => (0, 0)
  | some kt => (64 + kt, 0)) else (0, 0)
/-- The document's number of a name that is none of the table's. -/
def cvR (nm : ByteArray) : Int × Int := match cvF nm 0 (nm.size - 3) with
  | some r => r
  | none => cvT nm
theorem cv_next {nm : ByteArray} {j m : Nat} {X : Option (Int × Int)} (h : X = match cvS nm j with | some r => some r | none => cvF nm (j + 1) m) (n : cvS nm j = none) {M : Nat} (e : M = m) : X = cvF nm (j + 1) M := by rw [h, n, e]
theorem meas_j (j n : Nat) (h : j < n) : n - (intOf (.int .i64 ((j : Int) + 1))).toNat < n - (intOf (.int .i64 (j : Int))).toNat := by simp [intOf]; omega
theorem kd_none' {s : ByteArray} (h : kfind s 1 19 = none) : kdR s = .tuple #[.int .u8 0, .bool false] := by unfold kdR; rw [h]
theorem kd_some' {s : ByteArray} {i : Nat} (h : kfind s 1 19 = some i) : kdR s = .tuple #[.int .u8 i, .bool true] := by unfold kdR; rw [h]
theorem kd_any' (s : ByteArray) : ∃ (i : Nat) (b : Bool), kdR s = .tuple #[.int .u8 i, .bool b] := by
  cases h : kfind s 1 19 with
  | none => exact ⟨0, _, kd_none' h⟩
  | some i => exact ⟨i, _, kd_some' h⟩
theorem kfind_le' (s : ByteArray) : ∀ (f i j : Nat), kfind s i f = some j → i ≤ j ∧ j < i + f
  | 0, i, j, h => by simp [kfind] at h
  | f + 1, i, j, h => by
    unfold kfind at h
    split at h
    · cases h; omega
    · have := kfind_le' s f (i + 1) j h; omega
set_option maxRecDepth 20000 in
set_option maxHeartbeats 4000000 in
theorem numberR_cv (nm : ByteArray) (hno : ∀ k, 1 ≤ k → k < 37 → ((fuT k).nm.toList == nm.toList) = false) (w : World) (hs : nm.size < 4294967281) :
    Calls Tryz.prog 13 #[.string nm] w fun e w' => e = .returned (.tuple #[.int .i64 (cvR nm).1, .int .u8 (cvR nm).2]) ∧ Below w.heap.size w w' := by
  have HN : Hid _ := hno
  have HSZ : Hid (nm.size < 4294967281) := hs
  clear hno hs
  go_enter Tryz.func13, Tryz.ntmps13
  go_wp2_with (first | (go_at_call 26; refine (namesR_of _).mono ?_; rintro e w1 ⟨rfl, hr, hb⟩; have HB : Hid _ := hb; have HR : Hid (NmR w1 w.heap.size) := hr; clear hb hr))
  go_loopw [15] (fun i wr => ∃ k : Nat, k ≤ 37 ∧ i = .int .i64 k ∧ wr = w1) (fun i _ => 37 - (intOf i).toNat)
  case atStart => exact ⟨0, Nat.zero_le _, rfl, rfl⟩
  case round =>
    obtain ⟨k, hk, rfl, hw⟩ := hrel
    subst hw
    by_cases hlt : k < 37
    · have k37 : (k : Int) < 37 := by omega
      have HNk : Hid (1 ≤ k → ((fuT k).nm.toList == nm.toList) = false) := fun h => HN.out k h hlt
      have d : wr.cell? ⟨w.heap.size, k, none⟩ = some (.string (fuT k).nm) := HR.out k (by omega)
      generalize (fuT k).nm = x at *
      by_cases h0 : k = 0
      · subst h0
        clear HNk
        cases ex : (x.toList == nm.toList)
        all_goals
          go_wp2
          exact ⟨⟨1, by omega, rfl, (by first | rfl | trivial)⟩, by simp [intOf]⟩
      · have hn := HNk.out (by omega)
        have kp : (0 : Int) < k := by omega
        clear HNk
        go_wp2
        exact ⟨⟨k + 1, by omega, by go_num, (by first | rfl | trivial)⟩, by simp [intOf]; omega⟩
    · obtain rfl : k = 37 := by omega
      clear HN
      go_wp2_with fail
      go_loopw [6] (fun i wq => ∃ j : Nat, j ≤ nm.size ∧ i = .int .i64 j ∧ Below w.heap.size w wq ∧ cvF nm 0 (nm.size - 3) = cvF nm j (nm.size - 3 - j)) (fun i _ => nm.size - (intOf i).toNat)
      case atStart => exact ⟨0, Nat.zero_le _, rfl, HB.out, by rw [Nat.sub_zero]⟩
      case round =>
        obtain ⟨j, hj, rfl, hb, hf⟩ := hrel
        have HB : Hid (Below w.heap.size w wr) := hb
        have HF : Hid (cvF nm 0 (nm.size - 3) = cvF nm j (nm.size - 3 - j)) := hf
        clear hb hf
        have w4 : wrap64 ((j : Int) + 4) = (j : Int) + 4 := by have := HSZ.out; unfold wrap64; omega
        have w1 : wrap64 ((j : Int) + 1) = (j : Int) + 1 := by have := HSZ.out; unfold wrap64; omega
        by_cases hlt : j + 4 ≤ nm.size
        · have l4 : (j : Int) + 4 ≤ nm.size := by omega
          have lj : (j : Int) ≤ nm.size := by omega
          have mn : min (nm.size : Int) ((j : Int) + 4) = (j : Int) + 4 := by omega
          have mt : ((j : Int) + 4).toNat = j + 4 := by omega
          have nj : (0 : Int) ≤ j := by omega
          obtain ⟨m, em⟩ : ∃ m, nm.size - 3 - j = m + 1 := ⟨nm.size - 4 - j, by omega⟩
          have EM : Hid (nm.size - 3 - (j + 1) = m) := by show nm.size - 3 - (j + 1) = m; omega
          have ST : Hid (cvF nm 0 (nm.size - 3) = match cvS nm j with | some r => some r | none => cvF nm (j + 1) m) := by
            show cvF nm 0 (nm.size - 3) = _; rw [HF.out, em, cvF_succ]
          clear HF em
          cases p : ((nm.extract j (j + 4)).toList == [95, 84, 79, 95])
          · have N : Hid (cvS nm j = none) := by show cvS nm j = none; unfold cvS; rw [p]; rfl
            have NX : Hid (cvF nm 0 (nm.size - 3) = cvF nm (j + 1) (nm.size - 3 - (j + 1))) := cv_next ST.out N.out EM.out
            have pn : ((nm.extract j (j + 4)).toList != [95, 84, 79, 95]) = true := by simp only [bne, p]; rfl
            go_wp2
            exact ⟨⟨j + 1, by omega, congrArg (Value.int .i64) (w1.trans (Int.natCast_succ j).symm), HB.out, NX.out⟩, by rw [w1]; exact meas_j j nm.size (by omega)⟩
          · have pn : ((nm.extract j (j + 4)).toList != [95, 84, 79, 95]) = false := by simp only [bne, p]; rfl
            have KA : Hid (∀ w, Calls Tryz.prog 27 #[.string (nm.extract 0 j)] w fun e w' => e = .returned (kdR (nm.extract 0 j)) ∧ Below w.heap.size w w') := fun w => KindR_of _ w
            have KB : Hid (∀ w, Calls Tryz.prog 27 #[.string (nm.extract (j + 4) nm.size)] w fun e w' => e = .returned (kdR (nm.extract (j + 4) nm.size)) ∧ Below w.heap.size w w') := fun w => KindR_of _ w
            have SV : Hid (cvS nm j = (match kfind (nm.extract 0 j) 1 19 with
              | none => none
              | some fr => match kfind (nm.extract (j + 4) nm.size) 1 19 with
                | none => none
                | some kt => some (64 + kt, fr))) := by show cvS nm j = _; unfold cvS; rw [p]; rfl
            go_wp2_with fail
            clear p pn
            refine (KA.out _).mono ?_
            rintro e w6 ⟨rfl, hb6⟩
            have B6 : Hid (Below w.heap.size w w6) := HB.out.trans (hb6.mono HB.out.size)
            clear hb6 KA
            cases ka : kfind (nm.extract 0 j) 1 19 with
            | none =>
              have kd := kd_none' ka
              have N : Hid (cvS nm j = none) := by show cvS nm j = none; rw [SV.out, ka]
              have NX : Hid (cvF nm 0 (nm.size - 3) = cvF nm (j + 1) (nm.size - 3 - (j + 1))) := cv_next ST.out N.out EM.out
              rw [kd]
              obtain ⟨kb1, kb2, kb⟩ := kd_any' (nm.extract (j + 4) nm.size)
              rw [kb] at KB
              clear kd ka kb SV
              go_wp2_with fail
              refine (KB.out _).mono ?_
              rintro e w7 ⟨rfl, hb7⟩
              have B7 : Hid (Below w.heap.size w w7) := B6.out.trans (hb7.mono B6.out.size)
              clear hb7 KB
              go_wp2
              go_roundw
              case rel => (repeat apply Exists.intro); exact ⟨⟨j + 1, by omega, congrArg (Value.int .i64) (w1.trans (Int.natCast_succ j).symm), B7.out, NX.out⟩, rfl⟩
              case measure => rw [w1]; exact meas_j j nm.size (by omega)
            | some fr =>
              have kd := kd_some' ka
              rw [kd]
              cases kb : kfind (nm.extract (j + 4) nm.size) 1 19 with
              | none =>
                have kd2 := kd_none' kb
                have N : Hid (cvS nm j = none) := by show cvS nm j = none; rw [SV.out, ka, kb]
                have NX : Hid (cvF nm 0 (nm.size - 3) = cvF nm (j + 1) (nm.size - 3 - (j + 1))) := cv_next ST.out N.out EM.out
                rw [kd2] at KB
                clear kd kd2 ka kb SV
                go_wp2_with fail
                refine (KB.out _).mono ?_
                rintro e w7 ⟨rfl, hb7⟩
                have B7 : Hid (Below w.heap.size w w7) := B6.out.trans (hb7.mono B6.out.size)
                clear hb7 KB
                go_wp2
                go_roundw
                case rel => (repeat apply Exists.intro); exact ⟨⟨j + 1, by omega, congrArg (Value.int .i64) (w1.trans (Int.natCast_succ j).symm), B7.out, NX.out⟩, rfl⟩
                case measure => rw [w1]; exact meas_j j nm.size (by omega)
              | some kt =>
                have kd2 := kd_some' kb
                have N : Hid (cvR nm = (64 + (kt : Int), (fr : Int))) := by show cvR nm = _; unfold cvR; rw [ST.out, SV.out, ka, kb]
                rw [kd2] at KB
                have kr := kfind_le' _ _ _ _ kb
                have kr1 : (kt : Int) ≤ 19 := by omega
                clear kd kd2 ka kb SV kr
                go_wp2_with fail
                refine (KB.out _).mono ?_
                rintro e w7 ⟨rfl, hb7⟩
                have B7 : Hid (Below w.heap.size w w7) := B6.out.trans (hb7.mono B6.out.size)
                clear hb7 KB
                go_wp2
                go_ret2
                exact ⟨by rw [N.out]; rfl, B7.out⟩
        · have l4 : ¬ (j : Int) + 4 ≤ nm.size := by omega
          have F : Hid (cvR nm = cvT nm) := by
            show cvR nm = cvT nm; unfold cvR; rw [HF.out, show nm.size - 3 - j = 0 by omega, cvF_zero]
          clear HF
          have PT : Hid (cvR nm = cvT nm) := F.out
          by_cases l3 : 3 < nm.size
          · have l3' : (3 : Int) < nm.size := by omega
            have l3'' : (3 : Int) ≤ nm.size := by omega
            cases q : ((nm.extract 0 3).toList == [84, 79, 95])
            · have N : Hid (cvR nm = (0, 0)) := by show cvR nm = _; rw [PT.out]; unfold cvT; rw [q]; simp
              go_wp2
              go_ret2
              exact ⟨by rw [N.out]; rfl, HB.out⟩
            · have KA : Hid (∀ w, Calls Tryz.prog 27 #[.string (nm.extract 3 nm.size)] w fun e w' => e = .returned (kdR (nm.extract 3 nm.size)) ∧ Below w.heap.size w w') := fun w => KindR_of _ w
              cases ka : kfind (nm.extract 3 nm.size) 1 19 with
              | none =>
                have kd := kd_none' ka
                have N : Hid (cvR nm = (0, 0)) := by show cvR nm = _; rw [PT.out]; unfold cvT; rw [q, ka]; simp
                rw [kd] at KA
                clear kd ka
                go_wp2_with fail
                refine (KA.out _).mono ?_
                rintro e w6 ⟨rfl, hb6⟩
                have B6 : Hid (Below w.heap.size w w6) := HB.out.trans (hb6.mono HB.out.size)
                clear hb6
                go_wp2
                go_ret2
                exact ⟨by rw [N.out]; rfl, B6.out⟩
              | some kt =>
                have kd := kd_some' ka
                have N : Hid (cvR nm = (64 + (kt : Int), 0)) := by show cvR nm = _; rw [PT.out]; unfold cvT; rw [q, ka]; simp [l3]
                have kr := kfind_le' _ _ _ _ ka
                have kr1 : (kt : Int) ≤ 19 := by omega
                rw [kd] at KA
                clear kd ka kr
                go_wp2_with fail
                refine (KA.out _).mono ?_
                rintro e w6 ⟨rfl, hb6⟩
                have B6 : Hid (Below w.heap.size w w6) := HB.out.trans (hb6.mono HB.out.size)
                clear hb6
                go_wp2
                go_ret2
                exact ⟨by rw [N.out]; rfl, B6.out⟩
          · have l3' : ¬ (3 : Int) < nm.size := by omega
            have N : Hid (cvR nm = (0, 0)) := by show cvR nm = _; rw [PT.out]; unfold cvT; simp [l3]
            go_wp2
            go_ret2
            exact ⟨by rw [N.out]; rfl, HB.out⟩
end Go.Proofs.YtpaibmganlaaeaaGreatDoor
namespace Go.Proofs.YtpaibmganlaaeaaGreatDoor
set_option linter.unusedVariables false
open Go.RowKit
/-- TO_ stands at a place. -/
def o3 (l : List UInt8) (j : Nat) : Prop := l[j]? = some 84 ∧ l[j + 1]? = some 79 ∧ l[j + 2]? = some 95
theorem take3 (m : List UInt8) (a b c : UInt8) : m.take 3 = [a, b, c] ↔ m[0]? = some a ∧ m[1]? = some b ∧ m[2]? = some c := by
  match m with
  | [] => simp
  | [x] => simp
  | [x, y] => simp
  | x :: y :: z :: r => simp
theorem take4 (m : List UInt8) (a b c d : UInt8) : m.take 4 = [a, b, c, d] ↔ m[0]? = some a ∧ m[1]? = some b ∧ m[2]? = some c ∧ m[3]? = some d := by
  match m with
  | [] => simp
  | [x] => simp
  | [x, y] => simp
  | [x, y, z] => simp
  | x :: y :: z :: u :: r => simp
theorem occ_o3 (l : List UInt8) (j : Nat) : Lib.occAt l [84, 79, 95] j = true ↔ o3 l j := by
  unfold Lib.occAt o3
  rw [List.isPrefixOf_iff_prefix, List.prefix_iff_eq_take]
  show [84, 79, 95] = (l.drop j).take 3 ↔ _
  rw [eq_comm, take3]
  simp [List.getElem?_drop]
theorem tl_ext (s : ByteArray) (a b : Nat) : (s.extract a b).toList = (s.data.toList.take b).drop a := by rw [ByteArray.toList_eq, ByteArray.data_extract]; simp [List.drop_take]
theorem u4_iff (nm : ByteArray) (i : Nat) : ((nm.extract i (i + 4)).toList == [95, 84, 79, 95]) = true ↔ nm.data.toList[i]? = some 95 ∧ o3 nm.data.toList (i + 1) := by
  rw [tl_ext, beq_iff_eq, List.drop_take, show i + 4 - i = 4 by omega, take4]
  simp only [List.getElem?_drop, o3]
  constructor
  · rintro ⟨a, b, c, d⟩; exact ⟨a, b, c, d⟩
  · rintro ⟨a, b, c, d⟩; exact ⟨a, b, c, d⟩
theorem p3_iff (nm : ByteArray) : ((nm.extract 0 3).toList == [84, 79, 95]) = true ↔ o3 nm.data.toList 0 := by
  rw [tl_ext, beq_iff_eq, List.drop_zero, take3]; rfl
/-- What is a kind's word. -/
theorem kf_word {s : ByteArray} {i : Nat} : ∀ (f a : Nat), kfind s a f = some i → s.data.toList = (kw i).data.toList
  | 0, a, h => by simp [kfind] at h
  | f + 1, a, h => by
    unfold kfind at h
    split at h
    · rename_i e
      cases h
      rw [ByteArray.toList_eq, ByteArray.toList_eq, beq_iff_eq] at e
      exact e.symm
    · exact kf_word f (a + 1) h
/-- No kind's word has TO_ in it, ends with TO, or is empty. -/
def okW (x : List UInt8) : Bool := !x.isEmpty && (List.range 20).all (fun j => !(x[j]? == some 84 && x[j + 1]? == some 79 && (x[j + 2]? == some 95 || j + 2 == x.length))) && decide (x.length ≤ 20)
theorem kw_ok (i : Nat) (h : 1 ≤ i ∧ i ≤ 19) : okW (kw i).data.toList = true := by
  obtain ⟨h1, h2⟩ := h
  match i, h1, h2 with
  | 1, _, _ => decide
  | 2, _, _ => decide
  | 3, _, _ => decide
  | 4, _, _ => decide
  | 5, _, _ => decide
  | 6, _, _ => decide
  | 7, _, _ => decide
  | 8, _, _ => decide
  | 9, _, _ => decide
  | 10, _, _ => decide
  | 11, _, _ => decide
  | 12, _, _ => decide
  | 13, _, _ => decide
  | 14, _, _ => decide
  | 15, _, _ => decide
  | 16, _, _ => decide
  | 17, _, _ => decide
  | 18, _, _ => decide
  | 19, _, _ => decide
  | n + 20, _, h => omega
theorem kf_ok {s : ByteArray} {i : Nat} (h : kfind s 1 19 = some i) : okW s.data.toList = true := by
  rw [kf_word _ _ h]
  have := kfind_le _ _ _ _ h
  exact kw_ok i (by omega)
theorem ok_no {x : List UInt8} (h : okW x = true) (j : Nat) (a : x[j]? = some 84) (b : x[j + 1]? = some 79) (c : x[j + 2]? = some 95 ∨ j + 2 = x.length) : False := by
  unfold okW at h
  simp only [Bool.and_eq_true, List.all_eq_true, List.mem_range, decide_eq_true_eq] at h
  obtain ⟨⟨_, h2⟩, h3⟩ := h
  have hj : j < x.length := by
    rcases Nat.lt_or_ge j x.length with g | g
    · exact g
    · rw [List.getElem?_eq_none g] at a; cases a
  have := h2 j (by omega)
  rcases c with c | c
  · simp [a, b, c] at this
  · simp [a, b, c] at this
theorem ok_ne {x : List UInt8} (h : okW x = true) : x ≠ [] := by
  rintro rfl; simp [okW] at h
theorem cvF_none {nm : ByteArray} : ∀ (f i : Nat), (∀ j, i ≤ j → j < i + f → cvS nm j = none) → cvF nm i f = none
  | 0, i, _ => cvF_zero nm i
  | f + 1, i, h => by
    rw [cvF_succ, h i (Nat.le_refl _) (by omega)]
    exact cvF_none f (i + 1) (fun j h1 h2 => h j (by omega) (by omega))
theorem cvF_some {nm : ByteArray} {r : Int × Int} (k : Nat) (hk : cvS nm k = some r) : ∀ (f i : Nat), i ≤ k → k < i + f → (∀ j, i ≤ j → j < k → cvS nm j = none) → cvF nm i f = some r
  | 0, i, _, _, _ => by omega
  | f + 1, i, h1, h2, h => by
    rw [cvF_succ]
    by_cases e : i = k
    · subst e; rw [hk]
    · rw [h i (Nat.le_refl _) (by omega)]
      exact cvF_some k hk f (i + 1) (by omega) (by omega) (fun j g1 g2 => h j (by omega) g2)
theorem ba_of (s : ByteArray) (l : List UInt8) (h : s.data.toList = l) : s = ⟨l.toArray⟩ := by
  apply ByteArray.ext; rw [← h]
theorem dl_ext (s : ByteArray) (a b : Nat) : (s.extract a b).data.toList = (s.data.toList.take b).drop a := by rw [ByteArray.data_extract]; simp [List.drop_take]
theorem len_sz (s : ByteArray) : s.data.toList.length = s.size := by rw [Array.length_toList]; rfl
theorem kf_nil : kfind ⟨#[]⟩ 1 19 = none := by
  cases h : kfind ⟨#[]⟩ 1 19 with
  | none => rfl
  | some i => exact absurd rfl (ok_ne (kf_ok h))
/-- Where a look finds something, TO_ stands there first. -/
theorem cvS_first {nm : ByteArray} {i j : Nat} {r : Int × Int} (h : cvS nm i = some r) (hj : o3 nm.data.toList j) (hf : ∀ k, k < j → ¬ o3 nm.data.toList k) : j = i + 1 := by
  unfold cvS at h
  split at h
  · rename_i u
    rw [u4_iff] at u
    obtain ⟨u0, u1⟩ := u
    have l1 : j ≤ i + 1 := by
      rcases Nat.lt_or_ge (i + 1) j with g | g
      · exact absurd u1 (hf _ g)
      · exact g
    cases ka : kfind (nm.extract 0 i) 1 19 with
    | none => rw [ka] at h; simp at h
    | some fr =>
      have ok := kf_ok ka
      rw [dl_ext, List.drop_zero] at ok
      have tk : ∀ k, k < i → (nm.data.toList.take i)[k]? = nm.data.toList[k]? := fun k hk => List.getElem?_take_of_lt hk
      have li : i < nm.data.toList.length := by
        rcases Nat.lt_or_ge i nm.data.toList.length with g | g
        · exact g
        · rw [List.getElem?_eq_none g] at u0; cases u0
      have ln : (nm.data.toList.take i).length = i := by rw [List.length_take]; omega
      obtain ⟨a, b, c⟩ := hj
      rcases (by omega : j = i + 1 ∨ j = i ∨ j + 1 = i ∨ j + 2 ≤ i) with e | e | e | e
      · exact e
      · subst e; rw [u0] at a; simp at a
      · rw [e, u0] at b; simp at b
      · exfalso
        rcases (by omega : j + 2 = i ∨ j + 2 < i) with e | e
        · exact ok_no ok j (by rw [tk j (by omega)]; exact a) (by rw [tk (j + 1) (by omega)]; exact b) (.inr (by rw [ln]; exact e))
        · exact ok_no ok j (by rw [tk j (by omega)]; exact a) (by rw [tk (j + 1) (by omega)]; exact b) (.inl (by rw [tk (j + 2) (by omega)]; exact c))
  · simp at h
theorem cut_none {nm : ByteArray} (h : Lib.index nm.data.toList [84, 79, 95] = -1) : cutA nm = nm ∧ cutB nm = ⟨#[]⟩ := by
  unfold cutA cutB Lib.cut
  rw [h, if_neg (by decide)]
  exact ⟨(ba_of nm _ rfl).symm, rfl⟩
theorem cut_some {nm : ByteArray} {j : Nat} (h : Lib.index nm.data.toList [84, 79, 95] = j) : cutA nm = nm.extract 0 j ∧ cutB nm = nm.extract (j + 3) nm.size := by
  unfold cutA cutB Lib.cut
  rw [h, if_pos (by omega)]
  refine ⟨(ba_of _ _ ?_).symm, (ba_of _ _ ?_).symm⟩
  · rw [dl_ext, List.drop_zero]; simp
  · rw [dl_ext, ← len_sz nm, List.take_length]; simp
theorem lastU_iff (a : ByteArray) : lastU a = true ↔ ∃ n, a.size = n + 1 ∧ a.data.toList[n]? = some 95 := by
  unfold lastU
  rw [Bool.and_eq_true, decide_eq_true_eq, beq_iff_eq, tl_ext, ← len_sz a, List.take_length]
  constructor
  · rintro ⟨h1, h2⟩
    obtain ⟨n, e⟩ : ∃ n, a.data.toList.length = n + 1 := ⟨a.data.toList.length - 1, by omega⟩
    refine ⟨n, e, ?_⟩
    rw [e, Nat.add_sub_cancel] at h2
    have := congrArg (fun l => l[0]?) h2
    simpa [List.getElem?_drop] using this
  · rintro ⟨n, e, h⟩
    refine ⟨by omega, ?_⟩
    rw [e, Nat.add_sub_cancel]
    have hn : n < a.data.toList.length := by omega
    rw [List.drop_eq_getElem_cons hn, List.drop_of_length_le (by omega)]
    rw [List.getElem?_eq_getElem hn] at h
    rw [Option.some.inj h]
theorem cvT_no {nm : ByteArray} (h : ¬ o3 nm.data.toList 0) : cvT nm = (0, 0) := by
  unfold cvT
  cases q : ((nm.extract 0 3).toList == [84, 79, 95])
  · simp
  · exact absurd ((p3_iff nm).1 q) h
/-- Both sides agree. -/
theorem cv_same (nm : ByteArray) : cvR nm = cvP nm := by
  rcases Lib.index_spec nm.data.toList [84, 79, 95] with ⟨h, hno⟩ | ⟨j, h, hl, ho, hf⟩
  · have no : ∀ k, ¬ o3 nm.data.toList k := by
      intro k hk
      have hk' := (occ_o3 _ _).2 hk
      rcases Nat.lt_or_ge nm.data.toList.length k with g | g
      · have := hk.1; rw [List.getElem?_eq_none (by omega)] at this; cases this
      · rw [hno k g] at hk'; cases hk'
    obtain ⟨ea, eb⟩ := cut_none h
    have p : cvP nm = (0, 0) := by unfold cvP; rw [eb, kf_nil]
    have f : cvF nm 0 (nm.size - 3) = none := cvF_none _ _ (fun i _ _ => by
      unfold cvS
      cases u : ((nm.extract i (i + 4)).toList == [95, 84, 79, 95])
      · rfl
      · exact absurd ((u4_iff nm i).1 u).2 (no _))
    rw [p]; unfold cvR; rw [f]; exact cvT_no (no 0)
  · have hj : o3 nm.data.toList j := (occ_o3 _ _).1 ho
    have first : ∀ k, k < j → ¬ o3 nm.data.toList k := by
      intro k hk hk'
      have := (occ_o3 _ _).2 hk'
      have g := hf k hk
      rw [this] at g; cases g
    have only : ∀ i, i + 1 ≠ j → cvS nm i = none := by
      intro i hi
      cases e : cvS nm i with
      | none => rfl
      | some r => exact absurd (cvS_first e hj first).symm hi
    have room : j + 3 ≤ nm.size := by
      have := hj.2.2
      rcases Nat.lt_or_ge (j + 2) nm.data.toList.length with g | g
      · rw [len_sz] at g; omega
      · rw [List.getElem?_eq_none g] at this; cases this
    obtain ⟨ea, eb⟩ := cut_some h
    cases j with
    | zero =>
      have f : cvF nm 0 (nm.size - 3) = none := cvF_none _ _ (fun i _ _ => only i (by omega))
      have q := (p3_iff nm).2 hj
      have ez : (cutA nm).toList.isEmpty = true := by rw [ea, tl_ext]; simp
      unfold cvR cvP
      rw [f, ez, eb]
      simp only [if_true, Nat.zero_add]
      unfold cvT
      rw [q]
      by_cases l3 : 3 < nm.size
      · simp [l3]
        cases kfind (nm.extract 3 nm.size) 1 19 <;> rfl
      · have e0 : nm.extract 3 nm.size = ⟨#[]⟩ := ba_of _ _ (by rw [dl_ext, ← len_sz nm, List.take_length]; exact List.drop_of_length_le (by rw [len_sz]; omega))
        simp [l3, e0, kf_nil]
    | succ i0 =>
      have nt := cvT_no (first 0 (by omega))
      have sz : (cutA nm).size = i0 + 1 := by rw [ea]; simp; omega
      have ez : (cutA nm).toList.isEmpty = false := by
        rw [ea, tl_ext, List.drop_zero]
        have : (nm.data.toList.take (i0 + 1)).length = i0 + 1 := by rw [List.length_take, len_sz]; omega
        cases e : nm.data.toList.take (i0 + 1) with
        | nil => rw [e] at this; simp at this
        | cons x r => rfl
      have e1 : (cutA nm).extract 0 ((cutA nm).size - 1) = nm.extract 0 i0 := by
        have : ((cutA nm).extract 0 ((cutA nm).size - 1)).data.toList = (nm.extract 0 i0).data.toList := by
          rw [dl_ext, sz, ea, dl_ext, dl_ext, List.drop_zero, List.drop_zero, List.drop_zero, Nat.add_sub_cancel, List.take_take]
          congr 1; omega
        rw [ba_of _ _ this]
      have el : lastU (cutA nm) = true ↔ nm.data.toList[i0]? = some 95 := by
        rw [lastU_iff]
        constructor
        · rintro ⟨n, h1, h2⟩
          obtain rfl : n = i0 := by omega
          rw [ea, dl_ext, List.drop_zero, List.getElem?_take_of_lt (by omega)] at h2
          exact h2
        · intro g
          exact ⟨i0, sz, by rw [ea, dl_ext, List.drop_zero, List.getElem?_take_of_lt (by omega)]; exact g⟩
      have rest : cvS nm i0 = none → cvR nm = (0, 0) := by
        intro g
        unfold cvR
        rw [cvF_none _ _ (fun i _ _ => by by_cases e : i = i0; subst e; exact g; exact only i (by omega))]
        exact nt
      unfold cvP
      rw [ez, eb, e1]
      cases kt : kfind (nm.extract (i0 + 1 + 3) nm.size) 1 19 with
      | none =>
        refine rest ?_
        unfold cvS
        split
        · rw [show i0 + 4 = i0 + 1 + 3 by omega, kt]
          cases kfind (nm.extract 0 i0) 1 19 <;> rfl
        · rfl
      | some k =>
        cases u : lastU (cutA nm)
        · have nu : ¬ nm.data.toList[i0]? = some 95 := fun g => by rw [el.2 g] at u; cases u
          simp only [Bool.false_eq_true, if_false]
          refine rest ?_
          unfold cvS
          split
          · rename_i g; exact absurd ((u4_iff nm i0).1 g).1 nu
          · rfl
        · have g4 := (u4_iff nm i0).2 ⟨el.1 u, hj⟩
          simp only [Bool.false_eq_true, if_false, if_true]
          have sv : cvS nm i0 = (match kfind (nm.extract 0 i0) 1 19 with
            | none => none
            | some fr => some (64 + (k : Int), (fr : Int))) := by
            unfold cvS; rw [g4, show i0 + 4 = i0 + 1 + 3 by omega, kt]; rfl
          cases ka : kfind (nm.extract 0 i0) 1 19 with
          | none => exact rest (by rw [sv, ka])
          | some fr =>
            rw [ka] at sv
            unfold cvR
            rw [cvF_some i0 sv _ _ (Nat.zero_le _) (by omega) (fun i _ g => only i (by omega))]
end Go.Proofs.YtpaibmganlaaeaaGreatDoor
namespace Go.Proofs.YtpaibmganlaaeaaGreatDoor
set_option linter.unusedVariables false
open Go.RowKit
theorem least_K (p : Nat → Bool) : ∀ m, (∃ k, 1 ≤ k ∧ k < m ∧ p k = true) → ∃ K, 1 ≤ K ∧ K < m ∧ p K = true ∧ ∀ k, 1 ≤ k → k < K → p k = false
  | 0, h => by obtain ⟨k, _, h, _⟩ := h; omega
  | m + 1, h => by
    by_cases g : ∃ k, 1 ≤ k ∧ k < m ∧ p k = true
    · obtain ⟨K, a, b, c, d⟩ := least_K p m g
      exact ⟨K, a, by omega, c, d⟩
    · obtain ⟨k, a, b, c⟩ := h
      obtain rfl : k = m := by
        rcases Nat.lt_or_ge k m with q | q
        · exact absurd ⟨k, a, q, c⟩ g
        · omega
      refine ⟨k, a, b, c, fun j h1 h2 => ?_⟩
      rcases e : p j with _ | _
      · rfl
      · exact absurd ⟨j, h1, h2, e⟩ g
theorem ba_eqL {a b : ByteArray} (h : (a.toList == b.toList) = true) : a = b := by
  have e : a.toList = b.toList := by simpa using h
  rw [ByteArray.toList_eq, ByteArray.toList_eq] at e
  exact ByteArray.ext (Array.toList_inj.1 e)
theorem cvP_rg (s : ByteArray) : ((cvP s).1 = 0 ∨ (65 ≤ (cvP s).1 ∧ (cvP s).1 ≤ 83)) ∧ 0 ≤ (cvP s).2 ∧ (cvP s).2 < 256 := by
  unfold cvP
  split
  · exact ⟨.inl rfl, by decide, by decide⟩
  · rename_i i h
    have := kfind_le _ _ _ _ h
    split
    · exact ⟨.inr ⟨by simp only []; omega, by simp only []; omega⟩, by simp, by simp⟩
    · split
      · split
        · exact ⟨.inl rfl, by decide, by decide⟩
        · rename_i j h'
          have := kfind_le _ _ _ _ h'
          exact ⟨.inr ⟨by simp only []; omega, by simp only []; omega⟩, by simp only []; omega, by simp only []; omega⟩
      · exact ⟨.inl rfl, by decide, by decide⟩
/-- Both sides tell a name the same number, and the same kind that its name asks for. -/
theorem nam_any (s : ByteArray) (hs : s.size < 4294967281) : ∃ z y : Int, (z = 0 ∨ 1 ≤ z ∧ z ≤ 36 ∨ 65 ≤ z ∧ z ≤ 83) ∧ (0 ≤ y ∧ y < 256) ∧
    (∀ w, KW w → MxL w → Calls Tryz.prog 10 #[.string s] w fun e w' => e = .returned (.tuple #[.int .i64 z, .int .u8 y]) ∧ Below w.heap.size w w') ∧
    (∀ w, Calls Tryz.prog 13 #[.string s] w fun e w' => e = .returned (.tuple #[.int .i64 z, .int .u8 y]) ∧ Below w.heap.size w w') := by
  by_cases h : ∃ k, 1 ≤ k ∧ k < 37 ∧ ((fuT k).nm.toList == s.toList) = true
  · obtain ⟨K, h1, h2, h3, h4⟩ := least_K _ 37 h
    exact ⟨K, 0, .inr (.inl (by omega)), by omega, fun w _ _ => named_K K h1 h2 s (ba_eqL h3) h4 w, fun w => numberR_K K h1 h2 s (ba_eqL h3) h4 w⟩
  · have hno : ∀ k, 1 ≤ k → k < 37 → ((fuT k).nm.toList == s.toList) = false := fun k a b => by
      cases e : ((fuT k).nm.toList == s.toList)
      · rfl
      · exact absurd ⟨k, a, b, e⟩ h
    have rg := cvP_rg s
    refine ⟨(cvP s).1, (cvP s).2, ?_, rg.2, fun w hk hm => named_cv s hno w hk hm hs, fun w => ?_⟩
    · rcases rg.1 with q | q
      · exact .inl q
      · exact .inr (.inr q)
    · rw [← cv_same]
      exact numberR_cv s hno w hs
/-- What Find answers. -/
def fndV (z y : Int) (n : Nat) (κ : Nat → Int) : Value := if z = 0 then .tuple #[.int .i64 0, .int .u8 0, .int .i64 90] else if oA z n κ = 0 ∨ (¬ y = 0 ∧ ¬ κ 0 = y) then .tuple #[.int .i64 0, .int .u8 0, .int .i64 91] else .tuple #[.int .i64 z, .int .u8 (oA z n κ), .int .i64 0]
section
variable (nm : ByteArray) (z y : Int) (a : Option Addr) (n cap : Nat) (R : Int) (w : World)
set_option maxHeartbeats 1000000 in
theorem FindP_0 (hN : ∀ w, KW w → MxL w → Calls Tryz.prog 10 #[.string nm] w fun e w' => e = .returned (.tuple #[.int .i64 0, .int .u8 y]) ∧ Below w.heap.size w w') (hk : KW w) (hm : MxL w) :
    Calls Tryz.prog 5 #[.string nm, .slice a n cap] w fun e w' => e = .returned (.tuple #[.int .i64 0, .int .u8 0, .int .i64 90]) ∧ Below w.heap.size w w' := by
  have HN : Hid _ := hN
  have HK : Hid _ := hk
  have HM : Hid _ := hm
  clear hN hk hm
  go_enter Tryz.func5, Tryz.ntmps5
  go_wp2_with (first | (go_at_call 10; refine (HN.out _ HK.out HM.out).mono ?_; rintro e w1 ⟨rfl, hb⟩; have HB : Hid _ := hb; clear hb))
  go_ret3
  exact ⟨rfl, HB.out⟩
set_option maxHeartbeats 1000000 in
theorem FindP_no (f : Fu) (z0 : (z == 0) = false)
    (hN : ∀ w, KW w → MxL w → Calls Tryz.prog 10 #[.string nm] w fun e w' => e = .returned (.tuple #[.int .i64 z, .int .u8 y]) ∧ Below w.heap.size w w') (hk : KW w) (hm : MxL w)
    (hU : ∀ w, KW w → Calls Tryz.prog 11 #[.int .i64 z] w fun e w' => e = .returned (FV f) ∧ Below w.heap.size w w')
    (hO : ∀ W, Below w.heap.size w W → Calls Tryz.prog 12 #[FV f, .slice a n cap] W fun e w' => e = .returned (.int .u8 0) ∧ Below W.heap.size W w') :
    Calls Tryz.prog 5 #[.string nm, .slice a n cap] w fun e w' => e = .returned (.tuple #[.int .i64 0, .int .u8 0, .int .i64 91]) ∧ Below w.heap.size w w' := by
  have HN : Hid _ := hN
  have HK : Hid _ := hk
  have HM : Hid _ := hm
  have HU : Hid _ := hU
  have HO : Hid _ := hO
  clear hN hU hO hk hm
  go_enter Tryz.func5, Tryz.ntmps5
  go_wp2_with (first | (go_at_call 10; refine (HN.out _ HK.out HM.out).mono ?_; rintro e w1 ⟨rfl, hb⟩; have HB : Hid _ := hb; clear hb) | (go_at_call 11; refine (HU.out _ (HK.out.next HB.out)).mono ?_; rintro e w2 ⟨rfl, hb⟩; have HB2 : Hid (Below w.heap.size w w2) := HB.out.trans (hb.mono HB.out.size); clear hb) | (go_at_call 12; refine (HO.out _ HB2.out).mono ?_; rintro e w3 ⟨rfl, hb⟩; have HB3 : Hid (Below w.heap.size w w3) := HB2.out.trans (hb.mono HB2.out.size); clear hb))
  go_ret3
  exact ⟨rfl, HB3.out⟩
set_option maxHeartbeats 1000000 in
theorem FindP_yes (f : Fu) (g : Nat) (k0 : Int) (p : Bool) (z0 : (z == 0) = false) (hR : (R == 0) = false) (h0 : 0 < n) (hc : w.cell? ⟨g, 0, none⟩ = some (.int .u8 k0)) (hp : (!(y == 0) && !(k0 == y)) = p)
    (hN : ∀ w, KW w → MxL w → Calls Tryz.prog 10 #[.string nm] w fun e w' => e = .returned (.tuple #[.int .i64 z, .int .u8 y]) ∧ Below w.heap.size w w') (hk : KW w) (hm : MxL w)
    (hU : ∀ w, KW w → Calls Tryz.prog 11 #[.int .i64 z] w fun e w' => e = .returned (FV f) ∧ Below w.heap.size w w')
    (hO : ∀ W, Below w.heap.size w W → Calls Tryz.prog 12 #[FV f, .slice (some ⟨g, 0, none⟩) n cap] W fun e w' => e = .returned (.int .u8 R) ∧ Below W.heap.size W w') :
    Calls Tryz.prog 5 #[.string nm, .slice (some ⟨g, 0, none⟩) n cap] w fun e w' => e = .returned (if p = true then .tuple #[.int .i64 0, .int .u8 0, .int .i64 91] else .tuple #[.int .i64 z, .int .u8 R, .int .i64 0]) ∧ Below w.heap.size w w' := by
  have HN : Hid _ := hN
  have HK : Hid _ := hk
  have HM : Hid _ := hm
  have HU : Hid _ := hU
  have HO : Hid _ := hO
  have hg : g < w.heap.size := block_lt_of_cell hc
  have p0 : (0 : Int) < n := by omega
  clear hN hU hO hk hm
  rcases y0 : (y == 0) with _ | _ <;> rcases k0y : (k0 == y) with _ | _
  all_goals
    rw [y0, k0y] at hp
    obtain rfl := hp
    have nk : (k0 != y) = !(k0 == y) := rfl
    have ny : (y != 0) = !(y == 0) := rfl
    rw [k0y] at nk
    rw [y0] at ny
    go_enter Tryz.func5, Tryz.ntmps5
    go_wp2_with (first | (go_at_call 10; refine (HN.out _ HK.out HM.out).mono ?_; rintro e w1 ⟨rfl, hb⟩; have HB : Hid _ := hb; clear hb) | (go_at_call 11; refine (HU.out _ (HK.out.next HB.out)).mono ?_; rintro e w2 ⟨rfl, hb⟩; have HB2 : Hid (Below w.heap.size w w2) := HB.out.trans (hb.mono HB.out.size); clear hb) | (go_at_call 12; refine (HO.out _ HB2.out).mono ?_; rintro e w3 ⟨rfl, hb⟩; have HB3 : Hid (Below w.heap.size w w3) := HB2.out.trans (hb.mono HB2.out.size); have hc3 := (HB3.out.cell (p := ⟨g, 0, none⟩) hg).trans hc; clear hb))
    go_ret3
    exact ⟨rfl, HB3.out⟩
end
end Go.Proofs.YtpaibmganlaaeaaGreatDoor
