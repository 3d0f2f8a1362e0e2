/- image: an image that may be has numbers in their ranges; no statement of the seat is proved here. -/
import Derived.Test.YtkickdmomompjaaGreatKoB7
namespace Go.Proofs.YtkickdmomompjaaGreat
set_option linter.unusedVariables false
set_option linter.unusedSimpArgs false
open Go.RowKit
theorem wfa64 {n : Int} (h : wfI .i64 n) : I64 n := by have := wf_i64 h; exact ⟨by omega, by omega⟩
theorem wfa8 {n : Int} (h : wfI .u8 n) : U8 n := by have := wf_u8 h; exact ⟨by omega, by omega⟩
theorem wfau {n : Int} (h : wfI .u64 n) : U64 n := by have := wf_u64 h; exact ⟨by omega, by omega⟩
theorem dr_of {c : CeR} (h : ceB c = true) : U8 c.dr := by
  unfold ceB at h
  simp only [Bool.and_eq_true] at h
  have q := h.2
  unfold liB at q
  rw [Bool.and_eq_true] at q
  have q1 := q.1
  unfold inB at q1
  simp only [Bool.and_eq_true, decide_eq_true_eq] at q1
  exact ⟨by omega, by omega⟩
theorem gim_of {m : ImR} (ho : ImOk m) (h : (chk m).2.2 = 0) : GIm m := by
  have z0 : (lk3 m 0).2.2 = 0 := Decidable.byContradiction fun q => q (by rw [chk_0 q] at h; exact h)
  have z1 : (lk3 m 1).2.2 = 0 := Decidable.byContradiction fun q => by rw [chk_1 z0, if_pos q] at h; exact q h
  have zc := lk_none1 z1
  obtain ⟨_, o2, o3, o4, _⟩ := ho
  refine ⟨fun c hc => ?_, fun f hf => ?_, fun j hj => ?_⟩
  · obtain ⟨a1, a2, a3, a4, a5, a6, a7, a8, a9⟩ := o2 c hc
    obtain ⟨i, hi⟩ := List.mem_iff_getElem?.1 hc
    have hl := (List.getElem?_eq_some_iff.1 hi).1
    unfold fstN at zc
    rw [List.find?_range_eq_none] at zc
    have z := zc i hl
    simp only [Bool.not_eq_true', Bool.not_eq_false] at z
    unfold ceAt at z
    rw [hi] at z
    have z' : ceB c = true := by simp at z; exact z.1
    exact ⟨wfa8 a1, wfa64 a2, wfa64 a3, wfa64 a4, wfa8 a5, wfau a6, dr_of z'⟩
  · obtain ⟨a1, a2, a3, a4, a5, a6, a7, a8, _⟩ := o3 f hf
    refine ⟨wfa64 a2, wfa64 a3, wfa64 a4, wfa64 a5, wfa64 a6, fun o ho => ?_, fun l hl => ?_⟩
    · obtain ⟨b1, b2, b3, b4, b5, b6, b7, b8, b9, _⟩ := a7 o ho
      exact ⟨wfa64 b1, wfa64 b2, wfa64 b3, wfa64 b4, wfa64 b5, wfa64 b6, wfa64 b7, wfa8 b8, wfau b9⟩
    · obtain ⟨b1, b2, b3⟩ := a8 l hl
      exact ⟨wfa64 b1, wfa64 b2, wfa64 b3⟩
  · obtain ⟨a1, a2, a3, a4, a5, a6, a7, _⟩ := o4 j hj
    exact ⟨wfa64 a2, wfa64 a3, wfa64 a4, fun o ho => wfa64 (a6 o ho), fun o ho => wfa64 (a7 o ho), wfa64 a5⟩
/-- What Encode makes of an image that may be is taken, as that image. -/
theorem file_ok {m : ImR} (ho : ImOk m) (h : (chk m).2.2 = 0) (hl : (imbN m).length + 4 ≤ 4194304) : decM (fileN m) = m ∧ decE (fileN m) = (0, 0) ∧ (∀ b ∈ fileN m, b < 256) ∧ 8 ≤ (fileN m).length := by
  have b8 : ∀ b ∈ imbN m, b < 256 := Lt.imb m
  obtain ⟨e1, e2⟩ := file_dec (gim_of ho h) b8 hl
  rw [h] at e2
  refine ⟨e1, e2, fun b hb => ?_, ?_⟩
  · unfold fileN at hb
    rcases List.mem_append.1 hb with z | z
    · exact b8 b z
    · unfold cr4N at z
      have := uW_range (crcF (imbN m))
      simp only [List.mem_cons, List.not_mem_nil, or_false] at z
      rcases z with rfl | rfl | rfl | rfl <;> omega
  · rw [fileN_len, imb_r, List.length_append]
    (simp <;> omega)
end Go.Proofs.YtkickdmomompjaaGreat
