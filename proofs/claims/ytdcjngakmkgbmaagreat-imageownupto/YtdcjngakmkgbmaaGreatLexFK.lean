/- IsAddr on the document's side; no statement of the seat is proved here. -/
import Derived.Test.YtdcjngakmkgbmaaGreatKoA5
namespace Go.Proofs.YtdcjngakmkgbmaaGreat
set_option linter.unusedVariables false
open Go.RowKit
/-- What the document's 'address' answers of a text in capitals that begins with a percent sign. -/
def adR (s : ByteArray) : Int := if 0 ≤ adE s ∧ adE s < s.size ∧ namB (byt s (adE s).toNat) = true then -1 else adE s
theorem adR_iff (s : ByteArray) : adR s = s.size ↔ adE s = s.size := by
  unfold adR
  split <;> omega
theorem cap_ext (s t : ByteArray) (h : ∀ b ∈ t.data.toList, b ∈ s.data.toList) (hc : capS s = s) : capS t = t := by
  have e : (s.data.toList.map capU) = s.data.toList := by
    have := congrArg (fun x : ByteArray => x.data.toList) hc
    simpa [capS] using this
  have e1 : ∀ b ∈ s.data.toList, capU b = b := by
    intro b hb
    have := List.map_eq_map_iff (f := capU) (g := id) (l := s.data.toList)
    simp only [List.map_id, id] at this
    exact this.1 (by simpa using e) b hb
  have e2 : t.data.toList.map capU = t.data.toList := by
    conv => rhs; rw [← List.map_id t.data.toList]
    exact List.map_congr_left (fun b hb => e1 b (h b hb))
  unfold capS
  rw [e2]
theorem ext3_size (s : ByteArray) (h : 3 ≤ s.size) : (s.extract 0 3).size = 3 := by
  rw [ByteArray.size_extract]
  omega
theorem ext3_at (s : ByteArray) (h : 3 ≤ s.size) (i : Nat) (hi : i < 3) : byt (s.extract 0 3) i = byt s i := by
  unfold byt
  congr 2
  have : (s.extract 0 3).data.toList = s.data.toList.take 3 := by
    rw [ByteArray.data_extract]
    simp
  rw [this, List.getD_eq_getElem?_getD, List.getD_eq_getElem?_getD, List.getElem?_take_of_lt hi]
theorem ext3_mem (s : ByteArray) : ∀ b ∈ (s.extract 0 3).data.toList, b ∈ s.data.toList := by
  intro b hb
  have : (s.extract 0 3).data.toList = s.data.toList.take 3 := by
    rw [ByteArray.data_extract]
    simp
  rw [this] at hb
  exact List.mem_of_mem_take hb
theorem adR_small (s : ByteArray) (h : s.size ≤ 3) : adR s = -1 := by
  have : headB s = false := by
    cases g : headB s
    · rfl
    · unfold headB at g
      simp only [Bool.and_eq_true, decide_eq_true_eq] at g
      have := bit_size s g.1.2
      have := digN_le s this
      omega
  unfold adR
  rw [adE_head s this]
  rfl
set_option maxHeartbeats 1000000 in
theorem addressR_small (s : ByteArray) (w : World) (hs : s.size ≤ maxLen) (C : Hid (capS s = s)) (hz : s.size ≤ 3) : Calls Tryz.prog 114 #[.string s, .int .i64 0] w fun e w' => e = .returned (.int .i64 (adR s)) ∧ Below w.heap.size w w' := by
  rw [adR_small s hz]
  go_enter Tryz.func114, Tryz.ntmps114
  go_wp2_with (go_at_call 113; refine (Upper_of s _ hs).mono ?_; rintro e w1 ⟨rfl, hB⟩; rw [C.out])
  all_goals try go_rounds 1
  all_goals
    go_returns
    exact ⟨rfl, by assumption⟩
theorem area3 (c : Int) : areaB c = true ↔ c = 73 ∨ c = 81 ∨ c = 77 := by
  unfold areaB
  simp
theorem adR_no (s : ByteArray) (h : areaB (capI (byt s 1)) = false ∨ bitN (capI (byt s 2)) = 0) : adR s = -1 := by
  have : headB s = false := by
    unfold headB
    rcases h with h | h <;> simp [h]
  unfold adR
  rw [adE_head s this]
  rfl
end Go.Proofs.YtdcjngakmkgbmaaGreat
