/- What readBoth of times answers of every text; no statement of the seat is proved here. -/
import Derived.Test.YtpdnlojennhmpaaDoorPqG
namespace Go.Proofs.YtpdnlojennhmpaaDoor
set_option linter.unusedVariables false
open Go.RowKit
theorem q_three_set {W : World} {h : Nat} {x y z : Value} (v0 : W.cell? ⟨h, 0, none⟩ = some x) (v1 : W.cell? ⟨h, 1, none⟩ = some y) (v2 : W.cell? ⟨h, 2, none⟩ = some z) (a b c : Value) :
    (((W.setCell ⟨h, 0, none⟩ a).setCell ⟨h, 1, none⟩ b).setCell ⟨h, 2, none⟩ c).cell? ⟨h, 0, none⟩ = some a ∧ (((W.setCell ⟨h, 0, none⟩ a).setCell ⟨h, 1, none⟩ b).setCell ⟨h, 2, none⟩ c).cell? ⟨h, 1, none⟩ = some b ∧ (((W.setCell ⟨h, 0, none⟩ a).setCell ⟨h, 1, none⟩ b).setCell ⟨h, 2, none⟩ c).cell? ⟨h, 2, none⟩ = some c := by
  refine ⟨?_, ?_, ?_⟩ <;> simp [go_sem, v0, v1, v2]
/-- What a text says of a day and a time of day. -/
def boOk (l : List UInt8) : Bool := (l[10]? == some 45) && (dtOk (l.take 10) && ckOk (l.drop 11))
def boN (l : List UInt8) : Int := dtN (l.take 10) + ckN (l.drop 11)
set_option maxRecDepth 100000 in
set_option maxHeartbeats 2000000 in
theorem readBoth_exact (s : ByteArray) (hs : s.size ≤ 140737488355328) : ∃ z : Int, (boOk s.data.toList = true → z = boN s.data.toList) ∧ (0 ≤ z ∧ z ≤ 8000000000000000000) ∧ ∀ w, Tab w → Calls Tryd.prog 9 #[.string s] w fun e w' => e = .returned (.tuple #[.int .i64 z, .bool (boOk s.data.toList)]) ∧ Below w.heap.size w w' := by
  have SL : Hid (s.data.toList.length = s.size) := by show _ = _; simp
  by_cases h10 : s.size ≤ 10
  · have f : boOk s.data.toList = false := by
      unfold boOk
      rw [List.getElem?_eq_none (by rw [SL.out]; omega)]
      rfl
    rw [f]
    refine ⟨0, (fun q => by cases q), by omega, fun w hT => ?_⟩
    clear f SL hT
    go_enter Tryd.func9, Tryd.ntmps9
    go_wp2
    go_returns
    exact ⟨rfl, Below.refl _ _⟩
  · have i1 : (10 : Int) < s.size := by omega
    have g10 : s.data.toList[10]? = some s[10] := by
      rw [List.getElem?_eq_getElem (by rw [SL.out]; omega)]
      rfl
    by_cases h45 : (s[10].toNat : Int) = 45
    · have e45 : s[10] = 45 := UInt8.toNat_inj.mp (by show s[10].toNat = 45; omega)
      obtain ⟨d, hd, db, hD⟩ := readDate_exact (s.extract 0 10) (Nat.le_trans (ext_le _ _ _) hs)
      obtain ⟨c, hc, cb, hC⟩ := readClock_exact (s.extract 11 s.size) (Nat.le_trans (ext_le _ _ _) hs)
      have ea : (s.extract 0 10).data.toList = s.data.toList.take 10 := by rw [q_ext]; rfl
      have eb : (s.extract 11 s.size).data.toList = s.data.toList.drop 11 := by rw [q_ext, q_all]
      rw [ea] at hd hD
      rw [eb] at hc hC
      have f : boOk s.data.toList = (dtOk (s.data.toList.take 10) && ckOk (s.data.toList.drop 11)) := by
        unfold boOk
        rw [g10, e45]
        rfl
      have DD : Hid _ := hD
      have CC : Hid _ := hC
      rw [f]
      refine ⟨d + c, (fun q => ?_), by omega, fun w hT => ?_⟩
      · rw [Bool.and_eq_true] at q
        rw [hd q.1, hc q.2]
        rfl
      · have T : Hid (Tab w) := hT
        clear hd hc hD hC f ea eb hT g10 e45 SL
        generalize dtOk (s.data.toList.take 10) = p at *
        generalize ckOk (s.data.toList.drop 11) = q at *
        cases p
        all_goals
          go_enter Tryd.func9, Tryd.ntmps9
          go_wp2_with fail
          refine (DD.out _ T.out).mono ?_
          rintro e w1 ⟨rfl, hb1⟩
          have B1 : Hid (Below w.heap.size w w1) := hb1
          clear hb1
          go_wp2_with fail
          refine (CC.out _).mono ?_
          rintro e w2 ⟨rfl, hb2⟩
          have B2 : Hid (Below w.heap.size w w2) := B1.out.trans (hb2.mono B1.out.size)
          clear hb2
          go_wp2
          go_returns
          exact ⟨rfl, B2.out⟩
    · have e45 : ¬ s[10] = 45 := fun q => h45 (by rw [q]; rfl)
      have f : boOk s.data.toList = false := by
        unfold boOk
        rw [g10]
        have : (some s[10] == some (45 : UInt8)) = false := by simpa using e45
        rw [this]
        rfl
      rw [f]
      refine ⟨0, (fun q => by cases q), by omega, fun w hT => ?_⟩
      have h45' : ((s[10].toNat : Int) != 45) = true := by simpa using h45
      have h45'' : ((s[10].toNat : Int) == 45) = false := by simpa using h45
      clear f SL hT g10 e45
      go_enter Tryd.func9, Tryd.ntmps9
      go_wp2
      go_returns
      exact ⟨rfl, Below.refl _ _⟩
end Go.Proofs.YtpdnlojennhmpaaDoor
