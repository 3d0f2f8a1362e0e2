/- What named answers for a name that is none of the table's; no statement of the seat is proved here. -/
import Derived.Test.YtkanhbokdjppoaaGreatDoorStdN
import Derived.Test.YtkanhbokdjppoaaGreatDoorNmA
import Derived.Test.YtkanhbokdjppoaaGreatDoorWdB
import Derived.Test.YtkanhbokdjppoaaGreatDoorCu
namespace Go.Proofs.YtkanhbokdjppoaaGreatDoor
set_option linter.unusedVariables false
open Go.RowKit
/-- The variable that the search of texts reads holds a number. -/
def MxL (w : World) : Prop := ∃ m, w.cell? ⟨4, 0, none⟩ = some (.int .i64 m)
theorem MxL.below {w w' : World} (h : MxL w) (hb : Below w.heap.size w w') : MxL w' := by
  obtain ⟨m, hm⟩ := h
  exact ⟨m, (hb.cell (p := ⟨4, 0, none⟩) (block_lt_of_cell hm)).trans hm⟩
/-- What strings.Cut answers at TO_: ahead, behind. -/
def cutA (nm : ByteArray) : ByteArray := ⟨(Lib.cut nm.data.toList [84, 79, 95]).1.toArray⟩
def cutB (nm : ByteArray) : ByteArray := ⟨(Lib.cut nm.data.toList [84, 79, 95]).2.1.toArray⟩
/-- The number of a conversion's name, and the kind that it lets it take. -/
def cvP (nm : ByteArray) : Int × Int := match kfind (cutB nm) 1 19 with
  | none => (0, 0)
  | some kt => if (cutA nm).toList.isEmpty then (64 + kt, 0) else if lastU (cutA nm) then
      (match kfind ((cutA nm).extract 0 ((cutA nm).size - 1)) 1 19 with
      | none => (0, 0)
      | some fr => (64 + kt, fr)) else (0, 0)
theorem kd_none {s : ByteArray} (h : kfind s 1 19 = none) : kdR s = .tuple #[.int .u8 0, .bool false] := by unfold kdR; rw [h]
theorem kd_some {s : ByteArray} {i : Nat} (h : kfind s 1 19 = some i) : kdR s = .tuple #[.int .u8 i, .bool true] := by unfold kdR; rw [h]
theorem kd_any (s : ByteArray) : ∃ (i : Nat) (b : Bool), kdR s = .tuple #[.int .u8 i, .bool b] := by
  cases h : kfind s 1 19 with
  | none => exact ⟨0, _, kd_none h⟩
  | some i => exact ⟨i, _, kd_some h⟩
theorem kfind_le (s : ByteArray) : ∀ (f i j : Nat), kfind s i f = some j → i ≤ j ∧ j < i + f
  | 0, i, j, h => by simp [kfind] at h
  | f + 1, i, j, h => by
    unfold kfind at h
    split at h
    · cases h; omega
    · have := kfind_le s f (i + 1) j h; omega
theorem cut_size (nm : ByteArray) (hs : nm.size < 4294967281) : (cutA nm).size < 4294967281 := by
  have e : nm.data.toList.length = nm.size := by rw [Array.length_toList]; rfl
  show (Lib.cut nm.data.toList [84, 79, 95]).1.toArray.size < _
  unfold Lib.cut
  split
  · simp; omega
  · simp; exact hs
set_option maxRecDepth 20000 in
set_option maxHeartbeats 4000000 in
theorem named_cv (nm : ByteArray) (hno : ∀ k, 1 ≤ k → k < 37 → ((fuT k).nm.toList == nm.toList) = false) (w : World) (hk : KW w) (hm : MxL w) (hs : nm.size < 4294967281) :
    Calls Tryz.prog 22 #[.string nm] w fun e w' => e = .returned (.tuple #[.int .i64 (cvP nm).1, .int .u8 (cvP nm).2]) ∧ Below w.heap.size w w' := by
  have HN : Hid _ := hno
  have HK : Hid (KW w) := hk
  have HM : Hid (MxL w) := hm
  have HS : Hid _ := hs
  have CZ : Hid _ := cut_size nm hs
  clear hno hk hm hs
  have HC : Hid (∀ W, Below w.heap.size w W → Calls Tryz.prog 38 #[.string nm, .string ⟨#[84, 79, 95]⟩] W fun e w' => (∃ b, e = .returned (.tuple #[.string (cutA nm), .string (cutB nm), .bool b])) ∧ ∃ n, w' = W.drewN n) := by
    intro W hb
    obtain ⟨m, hm⟩ := HM.out.below hb
    exact (Tryz.strings_Cut nm ⟨#[84, 79, 95]⟩ m W HS.out hm).mono fun e w' h => ⟨⟨_, h.1⟩, h.2⟩
  clear HM HS
  go_enter Tryz.func22, Tryz.ntmps22
  go_wp2_with (first | (go_at_call 37; refine (functions_of _).mono ?_; rintro e w1 ⟨rfl, hb⟩; have HB : Hid _ := hb; clear hb))
  go_loopw [15] (fun i wr => ∃ k : Nat, k ≤ 37 ∧ i = .int .i64 k ∧ Below w.heap.size w wr) (fun i _ => 37 - (intOf i).toNat)
  case atStart => exact ⟨0, Nat.zero_le _, rfl, HB.out⟩
  case round =>
    obtain ⟨k, hk, rfl, hb⟩ := hrel
    have HB : Hid (Below w.heap.size w wr) := hb
    clear hb
    by_cases hlt : k < 37
    · have ix := fu_atK k hlt
      have k37 : (k : Int) < 37 := by omega
      have HNk : Hid (1 ≤ k → ((fuT k).nm.toList == nm.toList) = false) := fun h => HN.out k h hlt
      generalize fuT k = f at *
      obtain ⟨nm', fm', nx', hw', tk', gv'⟩ := f
      by_cases h0 : k = 0
      · subst h0
        clear ix HNk
        have ix : ∀ w, (Instr.index 67 (.agg fuCells) (.int .i64 0)).run Tryz.prog w = .ok (.agg #[.string ⟨#[]⟩, .string ⟨#[]⟩, .int .i64 0, .int .i64 0, .nilFunc, .nilFunc]) w := fun w => by kernel_rfl
        go_wp2_with (refine wpList_store_row rfl 54 _ _ rfl wr.heap.size _ rfl rfl _ _ (heap_alloc_last wr _) fun_info rfl (by kernel_rfl) ?_; rw [World.setRow_alloc_new])
        exact ⟨⟨1, by omega, rfl, HB.out.alloc HB.out.size _⟩, by simp [intOf]⟩
      · have hn := HNk.out (by omega)
        have kp : (0 : Int) < k := by omega
        clear HNk
        cases tk' <;> cases gv'
        all_goals
          simp only [FV, FO] at ix
          go_wp2_with (refine wpList_store_row rfl 54 _ _ rfl wr.heap.size _ rfl rfl _ _ (heap_alloc_last wr _) fun_info rfl (by kernel_rfl) ?_; rw [World.setRow_alloc_new])
          exact ⟨⟨k + 1, by omega, by go_num, HB.out.alloc HB.out.size _⟩, by simp [intOf]; omega⟩
    · obtain rfl : k = 37 := by omega
      go_wp2_with fail
      refine (HC.out _ HB.out).mono ?_
      rintro e w2 ⟨⟨b, rfl⟩, n, rfl⟩
      have B2 : Hid (Below w.heap.size w (wr.drewN n)) := ⟨HB.out.os, HB.out.tape, HB.out.output, HB.out.size, HB.out.block⟩
      have K2 : Hid (KW (wr.drewN n)) := HK.out.next B2.out
      generalize wr.drewN n = w3 at *
      clear HC HN
      have KD : Hid (∀ s w, KW w → Calls Tryz.prog 39 #[.string s] w fun e w' => e = .returned (kdR s) ∧ w' = w) := fun s w h => Kind_of s w h
      have CS : Hid (∀ w, Calls Tryz.prog 40 #[.string (cutA nm), .string ⟨#[95]⟩] w fun e w' => e = .returned (cutU (cutA nm)) ∧ w' = w) := fun w => CutSuffix_of _ w (by have := CZ.out; unfold maxLen; omega)
      cases kt : kfind (cutB nm) 1 19 with
      | none =>
        have CP : Hid (cvP nm = (0, 0)) := by show cvP nm = (0, 0); unfold cvP; rw [kt]
        have kd := kd_none kt
        generalize cutA nm = A at *
        generalize cutB nm = B at *
        go_wp2_with (first | (go_at_call 39; refine (KD.out _ _ K2.out).mono ?_; rintro e w4 ⟨rfl, rfl⟩; rw [kd]))
        go_ret2
        exact ⟨by rw [CP.out]; rfl, B2.out⟩
      | some k =>
        have kd := kd_some kt
        have kr := kfind_le _ _ _ _ kt
        have kr1 : (k : Int) ≤ 19 := by omega
        cases q : (cutA nm).toList.isEmpty
        · cases u : lastU (cutA nm)
          · have CP : Hid (cvP nm = (0, 0)) := by show cvP nm = (0, 0); unfold cvP; rw [kt]; simp [q, u]
            have cu : cutU (cutA nm) = .tuple #[.string (cutA nm), .bool false] := by simp [cutU, u]
            obtain ⟨i, b2, ka⟩ := kd_any (cutA nm)
            generalize cutA nm = A at *
            generalize cutB nm = B at *
            go_wp2_with (first | (go_at_call_of 39 B; refine (KD.out _ _ K2.out).mono ?_; rintro e w4 ⟨rfl, rfl⟩; rw [kd]) | (go_at_call 40; refine (CS.out _).mono ?_; rintro e w5 ⟨rfl, rfl⟩; rw [cu]) | (go_at_call_of 39 A; refine (KD.out _ _ K2.out).mono ?_; rintro e w6 ⟨rfl, rfl⟩; rw [ka]))
            go_ret2
            exact ⟨by rw [CP.out]; rfl, B2.out⟩
          · have cu : cutU (cutA nm) = .tuple #[.string ((cutA nm).extract 0 ((cutA nm).size - 1)), .bool true] := by simp [cutU, u]
            cases kf : kfind ((cutA nm).extract 0 ((cutA nm).size - 1)) 1 19 with
            | none =>
              have CP : Hid (cvP nm = (0, 0)) := by show cvP nm = (0, 0); unfold cvP; rw [kt]; simp [q, u, kf]
              have ka := kd_none kf
              generalize (cutA nm).extract 0 ((cutA nm).size - 1) = C at *
              generalize cutA nm = A at *
              generalize cutB nm = B at *
              go_wp2_with (first | (go_at_call_of 39 B; refine (KD.out _ _ K2.out).mono ?_; rintro e w4 ⟨rfl, rfl⟩; rw [kd]) | (go_at_call 40; refine (CS.out _).mono ?_; rintro e w5 ⟨rfl, rfl⟩; rw [cu]) | (go_at_call_of 39 C; refine (KD.out _ _ K2.out).mono ?_; rintro e w6 ⟨rfl, rfl⟩; rw [ka]))
              go_ret2
              exact ⟨by rw [CP.out]; rfl, B2.out⟩
            | some j =>
              have CP : Hid (cvP nm = (64 + (k : Int), (j : Int))) := by show cvP nm = (64 + (k : Int), (j : Int)); unfold cvP; rw [kt]; simp [q, u, kf]
              have ka := kd_some kf
              generalize (cutA nm).extract 0 ((cutA nm).size - 1) = C at *
              generalize cutA nm = A at *
              generalize cutB nm = B at *
              go_wp2_with (first | (go_at_call_of 39 B; refine (KD.out _ _ K2.out).mono ?_; rintro e w4 ⟨rfl, rfl⟩; rw [kd]) | (go_at_call 40; refine (CS.out _).mono ?_; rintro e w5 ⟨rfl, rfl⟩; rw [cu]) | (go_at_call_of 39 C; refine (KD.out _ _ K2.out).mono ?_; rintro e w6 ⟨rfl, rfl⟩; rw [ka]))
              go_ret2
              exact ⟨by rw [CP.out]; rfl, B2.out⟩
        · have CP : Hid (cvP nm = (64 + (k : Int), 0)) := by show cvP nm = (64 + (k : Int), 0); unfold cvP; rw [kt]; simp [q]
          generalize cutA nm = A at *
          generalize cutB nm = B at *
          go_wp2_with (first | (go_at_call 39; refine (KD.out _ _ K2.out).mono ?_; rintro e w4 ⟨rfl, rfl⟩; rw [kd]))
          go_ret2
          exact ⟨by rw [CP.out]; rfl, B2.out⟩
end Go.Proofs.YtkanhbokdjppoaaGreatDoor
