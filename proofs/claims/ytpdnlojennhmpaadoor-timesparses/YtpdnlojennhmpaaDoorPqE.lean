/- What readDate of times and the document's date answer of every text; no statement of the seat is proved here. -/
import Derived.Test.YtpdnlojennhmpaaDoorPqD
import Derived.Test.YtpdnlojennhmpaaDoorDaysB
import Derived.Test.YtpdnlojennhmpaaDoorDaysR
namespace Go.Proofs.YtpdnlojennhmpaaDoor
set_option linter.unusedVariables false
open Go.RowKit
theorem tabN {w w1 : World} (h : Tab w) (hb : Below w.heap.size w w1) : Tab w1 := fun m hm => (hb.cell (p := ⟨1, m, none⟩) (World.block_lt_of_cell? w ⟨1, 0, none⟩ (h 0 (by omega)))).trans (h m hm)
/-- A date's days are not below 0, and below 84006. -/
theorem dayN_bd (y m d : Int) (h : dateB y m d = true) : 0 ≤ dayN y m d ∧ dayN y m d < 84006 := by
  unfold dateB at h
  simp only [decide_eq_true_eq] at h
  obtain ⟨y0, y1, m0, m1, d0, d1⟩ := h
  obtain ⟨k, hk⟩ : ∃ k : Nat, y = 1970 + (k : Int) := ⟨(y - 1970).toNat, by omega⟩
  obtain ⟨j, hj⟩ : ∃ j : Nat, m = 1 + (j : Int) := ⟨(m - 1).toNat, by omega⟩
  subst hk hj
  unfold dayN
  have e1 : (1970 + (k : Int) - 1970).toNat = k := by omega
  have e2 : (1 + (j : Int) - 1).toNat = j := by omega
  rw [e1, e2]
  have a := Cal.ycum_bd k
  have b := Cal.mcum_bd (1970 + (k : Int)) j
  have c : Cal.mcum (1970 + (k : Int)) (j + 1) = Cal.mcum (1970 + (k : Int)) j + Cal.dim (1970 + (k : Int)) ((j : Int) + 1) := rfl
  have c2 := Cal.mcum_mono (1970 + (k : Int)) (j + 1) 12 (by omega)
  have c3 := Cal.mcum_year (1970 + (k : Int))
  have c4 : Cal.ycum (k + 1) = Cal.ycum k + Cal.yl (1970 + (k : Int)) := rfl
  have c5 := Cal.ycum_mono (k + 1) 230 (by omega)
  have c6 := Cal.ycum_all
  rw [show 1 + (j : Int) = (j : Int) + 1 by omega] at d1
  omega
/-- What a text says of a date. -/
def dtOk (l : List UInt8) : Bool := fmL l dtF && dateB (fxN l 0 4) (fxN l 5 2) (fxN l 8 2)
def dtN (l : List UInt8) : Int := dayN (fxN l 0 4) (fxN l 5 2) (fxN l 8 2) * 86400000000000
theorem DV_is (y m d : Int) : ∃ n : Int, (dateB y m d = true → n = dayN y m d) ∧ 0 ≤ n ∧ n < 84006 ∧ DV y m d = .tuple #[.int .i64 n, .bool (dateB y m d)] := by
  unfold DV
  cases h : dateB y m d with
  | false => exact ⟨0, (fun g => by cases g), by omega, by omega, rfl⟩
  | true => exact ⟨dayN y m d, fun _ => rfl, (dayN_bd y m d h).1, (dayN_bd y m d h).2, rfl⟩
theorem field_dt (s : ByteArray) (a b : Nat) (hs : s.size ≤ maxLen) (hb : a + b ≤ s.size) (h9 : b ≤ 9) (hf : fxP s.data.toList a b = true) (w : World) : Calls Tryd.prog 22 #[.string s, .int .i64 a, .int .i64 ((a + b : Nat) : Int)] w fun e w' => e = .returned (.int .i64 (fxN s.data.toList a b)) ∧ w' = w := by
  have hm : s.size ≤ 9223372036854775807 := hs
  obtain ⟨_, hd⟩ := (fxP_iff _ _ _).mp hf
  have e : (s.data.toList.take (a + b)).drop a = (s.data.toList.drop a).take b := by rw [List.drop_take, Nat.add_sub_cancel_left]
  have r := (rn_few2 ((s.data.toList.drop a).take b) hd (by rw [List.length_take]; omega)).1
  have V : rnV (s.extract a (a + b)) = .tuple #[.int .i64 (fxN s.data.toList a b), .bool (!(s.extract a (a + b)).toList.isEmpty)] := by
    unfold rnV fxN
    rw [q_ext, e, r]
  have R : Hid (∀ w, Calls Tryd.prog 47 #[.string (s.extract a (a + b))] w fun e w' => e = .returned (.tuple #[.int .i64 (fxN s.data.toList a b), .bool (!(s.extract a (a + b)).toList.isEmpty)]) ∧ w' = w) := fun w => by
    have := readNum_is (s.extract a (a + b)) w (Nat.le_trans (ext_le _ _ _) hs)
    rwa [V] at this
  clear V r e hd hf
  generalize fxN s.data.toList a b = z at *
  go_enter Tryd.func22, Tryd.ntmps22
  go_wp2_with (go_at_call 47; refine (R.out _).mono ?_; rintro e w1 ⟨rfl, rfl⟩)
  go_ret
  exact ⟨rfl, rfl⟩
set_option maxRecDepth 100000 in
set_option maxHeartbeats 2000000 in
theorem readDate_exact (s : ByteArray) (hs : s.size ≤ 140737488355328) : ∃ z : Int, (dtOk s.data.toList = true → z = dtN s.data.toList) ∧ (0 ≤ z ∧ z ≤ 7258118400000000000) ∧ ∀ w, Tab w → Calls Tryd.prog 7 #[.string s] w fun e w' => e = .returned (.tuple #[.int .i64 z, .bool (dtOk s.data.toList)]) ∧ Below w.heap.size w w' := by
  have hml : s.size ≤ maxLen := by unfold maxLen; omega
  have HF : Hid (∀ w, Calls Tryd.prog 20 #[.string s, .string ⟨#[48, 48, 48, 48, 45, 48, 48, 45, 48, 48]⟩] w fun e w' => e = .returned (.bool (fmL s.data.toList dtF)) ∧ Below w.heap.size w w') := fun w => hasForm_exact s ⟨#[48, 48, 48, 48, 45, 48, 48, 45, 48, 48]⟩ w hml
  cases q : fmL s.data.toList dtF
  · have f : dtOk s.data.toList = false := by unfold dtOk; rw [q]; rfl
    rw [f]
    refine ⟨0, (fun h => by cases h), by omega, fun w hT => ?_⟩
    rw [q] at HF
    clear q f hT
    go_enter Tryd.func7, Tryd.ntmps7
    go_wp2_with fail
    refine (HF.out _).mono ?_
    rintro e w1 ⟨rfl, hb⟩
    have B : Hid (Below w.heap.size w w1) := hb
    clear hb
    go_wp2
    go_returns
    exact ⟨rfl, B.out⟩
  · have sz : s.size = 10 := by
      have : s.data.toList.length = 10 := fmL_len _ _ q
      simpa using this
    have fm := dt_form s.data.toList
    rw [q] at fm
    have fm2 := fm.symm
    simp only [Bool.and_eq_true] at fm2
    obtain ⟨_, f0, f5, f8, _, _⟩ := fm2
    rw [q] at HF
    have f : dtOk s.data.toList = dateB (fxN s.data.toList 0 4) (fxN s.data.toList 5 2) (fxN s.data.toList 8 2) := by unfold dtOk; rw [q]; rfl
    have Y : Hid (∀ w, Calls Tryd.prog 22 #[.string s, .int .i64 0, .int .i64 4] w fun e w' => e = .returned (.int .i64 (fxN s.data.toList 0 4)) ∧ w' = w) := fun w => field_dt s 0 4 hml (by omega) (by omega) f0 w
    have M : Hid (∀ w, Calls Tryd.prog 22 #[.string s, .int .i64 5, .int .i64 7] w fun e w' => e = .returned (.int .i64 (fxN s.data.toList 5 2)) ∧ w' = w) := fun w => field_dt s 5 2 hml (by omega) (by omega) f5 w
    have D : Hid (∀ w, Calls Tryd.prog 22 #[.string s, .int .i64 8, .int .i64 10] w fun e w' => e = .returned (.int .i64 (fxN s.data.toList 8 2)) ∧ w' = w) := fun w => field_dt s 8 2 hml (by omega) (by omega) f8 w
    obtain ⟨n, hn, n0, n1, hv⟩ := DV_is (fxN s.data.toList 0 4) (fxN s.data.toList 5 2) (fxN s.data.toList 8 2)
    have DD : Hid (∀ w, Tab w → Calls Tryd.prog 21 #[.int .i64 (fxN s.data.toList 0 4), .int .i64 (fxN s.data.toList 5 2), .int .i64 (fxN s.data.toList 8 2)] w fun e w' => e = .returned (.tuple #[.int .i64 n, .bool (dateB (fxN s.data.toList 0 4) (fxN s.data.toList 5 2) (fxN s.data.toList 8 2))]) ∧ w' = w) := fun w h => by
      have := Days_of (fxN s.data.toList 0 4) (fxN s.data.toList 5 2) (fxN s.data.toList 8 2) w h
      rwa [hv] at this
    rw [f]
    refine ⟨n * 86400000000000, (fun h => by rw [hn h]; rfl), by omega, fun w hT => ?_⟩
    have T : Hid (Tab w) := hT
    clear hT q fm f f0 f5 f8 hn hv
    generalize dateB (fxN s.data.toList 0 4) (fxN s.data.toList 5 2) (fxN s.data.toList 8 2) = ok at *
    generalize fxN s.data.toList 0 4 = y at *
    generalize fxN s.data.toList 5 2 = m at *
    generalize fxN s.data.toList 8 2 = d at *
    go_enter Tryd.func7, Tryd.ntmps7
    go_wp2_with fail
    refine (HF.out _).mono ?_
    rintro e w1 ⟨rfl, hb⟩
    have B : Hid (Below w.heap.size w w1) := hb
    have T1 : Hid (Tab w1) := tabN T.out hb
    clear hb
    go_wp2_with fail
    refine (Y.out _).mono ?_
    rintro e w2 ⟨rfl, rfl⟩
    go_wp2_with fail
    refine (M.out _).mono ?_
    rintro e w3 ⟨rfl, rfl⟩
    go_wp2_with fail
    refine (D.out _).mono ?_
    rintro e w4 ⟨rfl, rfl⟩
    go_wp2_with fail
    refine (DD.out _ T1.out).mono ?_
    rintro e w5 ⟨rfl, rfl⟩
    go_wp2
    go_returns
    exact ⟨rfl, B.out⟩
set_option maxRecDepth 100000 in
set_option maxHeartbeats 4000000 in
theorem dateR_exact (s : ByteArray) (hs : s.size ≤ 140737488355328) : ∃ z : Int, (dtOk s.data.toList = true → z = dtN s.data.toList) ∧ (0 ≤ z ∧ z ≤ 7258118400000000000) ∧ ∀ w, Calls Tryd.prog 12 #[.string s] w fun e w' => e = .returned (.tuple #[.int .i64 z, .bool (dtOk s.data.toList)]) ∧ Below w.heap.size w w' := by
  obtain ⟨y, hy, yb, hY⟩ := fixedR_of s 0 4 hs (by omega) (by omega)
  obtain ⟨m, hm, mb, hM⟩ := fixedR_of s 5 2 hs (by omega) (by omega)
  obtain ⟨d, hd, db, hD⟩ := fixedR_of s 8 2 hs (by omega) (by omega)
  have Y : Hid (∀ w, Calls Tryd.prog 36 #[.string s, .int .i64 0, .int .i64 4] w fun e w' => e = .returned (.tuple #[.int .i64 y, .bool (fxP s.data.toList 0 4)]) ∧ w' = w) := hY
  have M : Hid (∀ w, Calls Tryd.prog 36 #[.string s, .int .i64 5, .int .i64 2] w fun e w' => e = .returned (.tuple #[.int .i64 m, .bool (fxP s.data.toList 5 2)]) ∧ w' = w) := hM
  have D : Hid (∀ w, Calls Tryd.prog 36 #[.string s, .int .i64 8, .int .i64 2] w fun e w' => e = .returned (.tuple #[.int .i64 d, .bool (fxP s.data.toList 8 2)]) ∧ w' = w) := hD
  have A4 : Hid (∀ w, Calls Tryd.prog 37 #[.string s, .int .i64 4, .int .u8 45] w fun e w' => e = .returned (.bool (atB s.data.toList 4 45)) ∧ w' = w) := fun w => atR_of s 4 45 (by omega) w
  have A7 : Hid (∀ w, Calls Tryd.prog 37 #[.string s, .int .i64 7, .int .u8 45] w fun e w' => e = .returned (.bool (atB s.data.toList 7 45)) ∧ w' = w) := fun w => atR_of s 7 45 (by omega) w
  have fm := dt_form s.data.toList
  have SL : s.data.toList.length = s.size := by simp
  rw [SL] at fm
  clear hY hM hD
  by_cases ok : fmL s.data.toList dtF = true
  · rw [ok] at fm
    have fm2 := fm.symm
    simp only [Bool.and_eq_true, decide_eq_true_eq] at fm2
    obtain ⟨sz, f0, f5, f8, a4, a7⟩ := fm2
    rw [f0] at Y
    rw [f5] at M
    rw [f8] at D
    rw [a4] at A4
    rw [a7] at A7
    have ey := hy f0
    have em := hm f5
    have ed := hd f8
    have f : dtOk s.data.toList = dateB y m d := by unfold dtOk; rw [ok, ey, em, ed]; rfl
    obtain ⟨n, hn, n0, n1, hv⟩ := DV_is y m d
    have DD : Hid (∀ w, Calls Tryd.prog 38 #[.int .i64 y, .int .i64 m, .int .i64 d] w fun e w' => e = .returned (.tuple #[.int .i64 n, .bool (dateB y m d)]) ∧ w' = w) := fun w => by
      have := DaysR_of y m d w
      rwa [hv] at this
    rw [f]
    refine ⟨n * 86400000000000, (fun h => by rw [hn h, ey, em, ed]; rfl), by omega, fun w => ?_⟩
    have sz' : (s.size : Int) = 10 := by omega
    clear fm ok f hn hv hy hm hd ey em ed f0 f5 f8 a4 a7 SL
    generalize dateB y m d = okd at *
    go_enter Tryd.func12, Tryd.ntmps12
    go_wp2_with fail
    refine (Y.out _).mono ?_
    rintro e w2 ⟨rfl, rfl⟩
    go_wp2_with fail
    refine (M.out _).mono ?_
    rintro e w3 ⟨rfl, rfl⟩
    go_wp2_with fail
    refine (D.out _).mono ?_
    rintro e w4 ⟨rfl, rfl⟩
    go_wp2_with fail
    refine (A4.out _).mono ?_
    rintro e w5 ⟨rfl, rfl⟩
    go_wp2_with fail
    refine (A7.out _).mono ?_
    rintro e w6 ⟨rfl, rfl⟩
    go_wp2_with fail
    refine (DD.out _).mono ?_
    rintro e w7 ⟨rfl, rfl⟩
    go_wp2
    go_returns
    exact ⟨rfl, Below.refl _ _⟩
  · have okf : fmL s.data.toList dtF = false := by simpa using ok
    have f : dtOk s.data.toList = false := by unfold dtOk; rw [okf]; rfl
    rw [f]
    refine ⟨0, (fun h => by cases h), by omega, fun w => ?_⟩
    rw [okf] at fm
    have fm2 := fm.symm
    clear fm f ok okf hy hm hd SL
    generalize fxP s.data.toList 0 4 = p0 at *
    generalize fxP s.data.toList 5 2 = p5 at *
    generalize fxP s.data.toList 8 2 = p8 at *
    generalize atB s.data.toList 4 45 = b4 at *
    generalize atB s.data.toList 7 45 = b7 at *
    by_cases sz : s.size = 10
    · have sz' : (s.size : Int) = 10 := by omega
      rw [decide_eq_true sz, Bool.true_and] at fm2
      cases p0
      case false =>
        clear fm2
        go_enter Tryd.func12, Tryd.ntmps12
        go_wp2_with fail
        refine (Y.out _).mono ?_
        rintro e w2 ⟨rfl, rfl⟩
        go_wp2_with fail
        refine (M.out _).mono ?_
        rintro e w3 ⟨rfl, rfl⟩
        go_wp2_with fail
        refine (D.out _).mono ?_
        rintro e w4 ⟨rfl, rfl⟩
        go_wp2
        go_returns
        exact ⟨rfl, Below.refl _ _⟩
      cases p5
      case false =>
        clear fm2
        go_enter Tryd.func12, Tryd.ntmps12
        go_wp2_with fail
        refine (Y.out _).mono ?_
        rintro e w2 ⟨rfl, rfl⟩
        go_wp2_with fail
        refine (M.out _).mono ?_
        rintro e w3 ⟨rfl, rfl⟩
        go_wp2_with fail
        refine (D.out _).mono ?_
        rintro e w4 ⟨rfl, rfl⟩
        go_wp2
        go_returns
        exact ⟨rfl, Below.refl _ _⟩
      cases p8
      case false =>
        clear fm2
        go_enter Tryd.func12, Tryd.ntmps12
        go_wp2_with fail
        refine (Y.out _).mono ?_
        rintro e w2 ⟨rfl, rfl⟩
        go_wp2_with fail
        refine (M.out _).mono ?_
        rintro e w3 ⟨rfl, rfl⟩
        go_wp2_with fail
        refine (D.out _).mono ?_
        rintro e w4 ⟨rfl, rfl⟩
        go_wp2
        go_returns
        exact ⟨rfl, Below.refl _ _⟩
      cases b4
      case false =>
        clear fm2
        go_enter Tryd.func12, Tryd.ntmps12
        go_wp2_with fail
        refine (Y.out _).mono ?_
        rintro e w2 ⟨rfl, rfl⟩
        go_wp2_with fail
        refine (M.out _).mono ?_
        rintro e w3 ⟨rfl, rfl⟩
        go_wp2_with fail
        refine (D.out _).mono ?_
        rintro e w4 ⟨rfl, rfl⟩
        go_wp2_with fail
        refine (A4.out _).mono ?_
        rintro e w5 ⟨rfl, rfl⟩
        go_wp2
        go_returns
        exact ⟨rfl, Below.refl _ _⟩
      cases b7
      case false =>
        clear fm2
        go_enter Tryd.func12, Tryd.ntmps12
        go_wp2_with fail
        refine (Y.out _).mono ?_
        rintro e w2 ⟨rfl, rfl⟩
        go_wp2_with fail
        refine (M.out _).mono ?_
        rintro e w3 ⟨rfl, rfl⟩
        go_wp2_with fail
        refine (D.out _).mono ?_
        rintro e w4 ⟨rfl, rfl⟩
        go_wp2_with fail
        refine (A4.out _).mono ?_
        rintro e w5 ⟨rfl, rfl⟩
        go_wp2_with fail
        refine (A7.out _).mono ?_
        rintro e w6 ⟨rfl, rfl⟩
        go_wp2
        go_returns
        exact ⟨rfl, Below.refl _ _⟩
      case true => cases fm2
    · have sz' : ((s.size : Int) == 10) = false := by simp; omega
      have sz2 : ((s.size : Int) != 10) = true := by simp; omega
      clear fm2
      go_enter Tryd.func12, Tryd.ntmps12
      go_wp2_with fail
      refine (Y.out _).mono ?_
      rintro e w2 ⟨rfl, rfl⟩
      go_wp2_with fail
      refine (M.out _).mono ?_
      rintro e w3 ⟨rfl, rfl⟩
      go_wp2_with fail
      refine (D.out _).mono ?_
      rintro e w4 ⟨rfl, rfl⟩
      go_wp2
      go_returns
      exact ⟨rfl, Below.refl _ _⟩
end Go.Proofs.YtpdnlojennhmpaaDoor
