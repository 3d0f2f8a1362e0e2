/- IsAddr on the program's side; no statement of the seat is proved here. -/
import Derived.Test.YtonadfpjoocopaaGreatLexDY
namespace Go.Proofs.YtonadfpjoocopaaGreat
set_option linter.unusedVariables false
open Go.RowKit
/-- 1 of an input, 2 of an output, 0 of memory. -/
def dirN (c : Int) : Int := if c = 73 then 1 else if c = 81 then 2 else 0
/-- Is a text an address in capitals? -/
def addrB (s : ByteArray) : Bool := decide (adE s = s.size) && decide (capS s = s)
/-- What IsAddr answers. -/
def addrV (s : ByteArray) : Value := if addrB s then .tuple #[.int .i64 (bitN (byt s 2)), .int .i64 (dirN (byt s 1)), .bool true] else .tuple #[.int .i64 0, .int .i64 0, .bool false]
theorem addrV_no (s : ByteArray) (h : ¬ adE s = s.size ∨ ¬ capS s = s) : addrV s = .tuple #[.int .i64 0, .int .i64 0, .bool false] := by
  have : addrB s = false := by
    unfold addrB
    rcases h with h | h <;> simp [h]
  unfold addrV
  rw [this]
  rfl
theorem addrV_yes (s : ByteArray) (h : adE s = s.size) (h' : capS s = s) : addrV s = .tuple #[.int .i64 (bitN (byt s 2)), .int .i64 (dirN (byt s 1)), .bool true] := by
  have : addrB s = true := by
    unfold addrB
    simp [h, h']
  unfold addrV
  rw [this]
  rfl
theorem ret_val {a b : Value} (h : a = b) : Ending.returned a = .returned b := by rw [h]
theorem adE_ok (s : ByteArray) (h : adE s = s.size) : byt s 0 = 37 ∧ areaB (capI (byt s 1)) = true ∧ bitN (capI (byt s 2)) ≠ 0 ∧ 3 ≤ s.size := by
  cases g : headB s
  · rw [adE_head s g] at h
    omega
  · unfold headB at g
    simp only [Bool.and_eq_true, decide_eq_true_eq] at g
    exact ⟨g.1.1.1, g.1.1.2, g.1.2, bit_size s g.1.2⟩
theorem capU_of_capS (s : ByteArray) (h : capS s = s) (i : Nat) : capI (byt s i) = byt s i := by
  rcases Nat.lt_or_ge i s.size with q | q
  · have e : (s.data.toList.map capU) = s.data.toList := by
      have := congrArg (fun x : ByteArray => x.data.toList) h
      simpa [capS] using this
    have q' : i < s.data.toList.length := by simpa using q
    have f : (s.data.toList.map capU)[i]? = s.data.toList[i]? := by rw [e]
    rw [List.getElem?_map, List.getElem?_eq_getElem q'] at f
    simp only [Option.map_some, Option.some.injEq] at f
    have g := capU_toNat (s.data.toList[i])
    rw [f] at g
    unfold byt
    rw [List.getD_eq_getElem?_getD, List.getElem?_eq_getElem q']
    exact g.symm
  · rw [byt_out s i q]
    rfl
theorem text_ne {a b : ByteArray} (h : ¬ a = b) : (a.toList == b.toList) = false := by
  rw [beq_eq_false_iff_ne]
  intro q
  rw [ByteArray.toList_eq, ByteArray.toList_eq] at q
  exact h (by cases a; cases b; simp at q; rw [q])
/-- The byte of an address that tells its direction, as the program's and the document's switch have it. -/
theorem dir3 (c : Int) : c = 73 ∨ c = 81 ∨ (c ≠ 73 ∧ c ≠ 81) := by omega
theorem dirN_no (c : Int) (h : c ≠ 73 ∧ c ≠ 81) : dirN c = 0 := by
  unfold dirN
  rw [if_neg h.1, if_neg h.2]
set_option maxHeartbeats 1000000 in
theorem IsAddr_yes (s : ByteArray) (w : World) (hs : s.size ≤ maxLen) (E : Hid (adE s = s.size)) (C : Hid (capS s = s)) (hz : 3 ≤ s.size) : Calls Tryz.prog 83 #[.string s] w fun e w' => e = .returned (addrV s) ∧ Below w.heap.size w w' := by
  generalize hv : addrV s = v
  have V : Hid (v = .tuple #[.int .i64 (bitN (byt s 2)), .int .i64 (dirN (byt s 1)), .bool true]) := by
    show _ = _
    rw [← hv, addrV_yes s E.out C.out]
  clear hv
  have hm : s.size ≤ 9223372036854775807 := hs
  have b1 : Hid (byt s 1 = s[1].toNat) := byt_in s 1 (by omega)
  have b2 : Hid (byt s 2 = s[2].toNat) := byt_in s 2 (by omega)
  have bb := byt_bounds s 2
  rw [b2.out] at bb
  have C2 : Hid (capI (s[2].toNat : Int) = s[2].toNat) := by
    show _ = _
    rw [← b2.out]
    exact capU_of_capS s C.out 2
  rw [b1.out, b2.out] at V
  rcases dir3 (s[1].toNat : Int) with h | h | h
  all_goals
    first
    | have f1 : ((s[1].toNat : Int) == 73) = true := by simpa using h
    | have f1 : ((s[1].toNat : Int) == 73) = false := by simp; omega
    first
    | have f2 : ((s[1].toNat : Int) == 81) = true := by simpa using h
    | have f2 : ((s[1].toNat : Int) == 81) = false := by simp; omega
    have V2 : Hid (v = .tuple #[.int .i64 (bitN (s[2].toNat : Int)), .int .i64 (if (s[1].toNat : Int) = 73 then 1 else if (s[1].toNat : Int) = 81 then 2 else 0), .bool true]) := V
    have H : Hid _ := h
    clear V h
    go_enter Tryz.func83, Tryz.ntmps83
    go_wp2_with (first
      | (go_at_call 105; refine (addressEnd_of s _ hs).mono ?_; rintro e w1 ⟨rfl, rfl⟩; rw [E.out])
      | (go_at_call 106; refine (capitals_of s _ hs).mono ?_; rintro e w1 ⟨rfl, hB⟩; rw [C.out])
      | (go_at_call 107; refine (addressBits_of _ bb.1 bb.2 _).mono ?_; rintro e w1 ⟨rfl, rfl⟩; rw [C2.out]))
    go_returns
    refine ⟨ret_val ?_, by assumption⟩
    rw [V2.out]
    have h := H.out
    first
    | (rw [if_pos h]; rfl)
    | (rw [if_neg (by omega), if_pos h]; rfl)
    | (rw [if_neg h.1, if_neg h.2]; rfl)
set_option maxHeartbeats 1000000 in
theorem IsAddr_of (s : ByteArray) (w : World) (hs : s.size ≤ maxLen) : Calls Tryz.prog 83 #[.string s] w fun e w' => e = .returned (addrV s) ∧ Below w.heap.size w w' := by
  by_cases hE : adE s = s.size
  · by_cases hC : capS s = s
    · exact IsAddr_yes s w hs hE hC (adE_ok s hE).2.2.2
    · generalize hv : addrV s = v
      have V' : Hid (v = .tuple #[.int .i64 0, .int .i64 0, .bool false]) := by
        show _ = _
        rw [← hv, addrV_no s (Or.inr hC)]
      have E : Hid (adE s = s.size) := hE
      have f := text_ne hC
      clear hE hv hC
      go_enter Tryz.func83, Tryz.ntmps83
      go_wp2_with (first
        | (go_at_call 105; refine (addressEnd_of s _ hs).mono ?_; rintro e w1 ⟨rfl, rfl⟩; rw [E.out])
        | (go_at_call 106; refine (capitals_of s _ hs).mono ?_; rintro e w1 ⟨rfl, hB⟩))
      go_returns
      exact ⟨ret_val V'.out.symm, by assumption⟩
  · generalize hv : addrV s = v
    have V' : Hid (v = .tuple #[.int .i64 0, .int .i64 0, .bool false]) := by
      show _ = _
      rw [← hv, addrV_no s (Or.inl hE)]
    have f : (adE s == (s.size : Int)) = false := by simpa using hE
    clear hv
    go_enter Tryz.func83, Tryz.ntmps83
    go_wp2_with (go_at_call 105; refine (addressEnd_of s _ hs).mono ?_; rintro e w1 ⟨rfl, rfl⟩)
    go_returns
    exact ⟨ret_val V'.out.symm, Below.refl _ _⟩
end Go.Proofs.YtonadfpjoocopaaGreat
