/- Rows of records copied; no statement of the seat is proved here. -/
import Derived.Test.YtkickdmomompjaaGreatLexAK
import Derived.Laws.IdiomStrings
import Derived.Test.YtkickdmomompjaaGreatKoA1
namespace Go.Proofs.YtkickdmomompjaaGreat
set_option linter.unusedVariables false
open Go.RowKit
theorem ret_str {a b : ByteArray} (h : a = b) : Ending.returned (.string a) = .returned (.string b) := by rw [h]
/-- A byte in capitals. -/
def capI (c : Int) : Int := if 97 ≤ c ∧ c ≤ 122 then c - 32 else c
def capU (b : UInt8) : UInt8 := UInt8.ofNat (capI b.toNat).toNat
theorem capU_toNat (b : UInt8) : ((capU b).toNat : Int) = capI b.toNat := by
  have h : b.toNat < 256 := b.toNat_lt
  unfold capU capI
  split
  · simp; omega
  · simp
/-- A text in capitals. -/
def capS (s : ByteArray) : ByteArray := ⟨(s.data.toList.map capU).toArray⟩
theorem capS_size (s : ByteArray) : (capS s).size = s.size := by
  show (s.data.toList.map capU).toArray.size = s.data.size
  simp
theorem capital_of (c : Int) (h0 : 0 ≤ c) (h1 : c ≤ 255) (w : World) : Calls Tryz.prog 107 #[.int .u8 c] w fun e w' => e = .returned (.int .u8 (capI c)) ∧ w' = w := by
  go_enter Tryz.func107, Tryz.ntmps107
  go_wp2
  all_goals
    go_ret
    refine ⟨ret_int ?_, rfl⟩
    unfold capI
    go_light
    first
    | (rw [if_pos (by omega)]; omega)
    | (rw [if_neg (by omega)])
    | (split <;> omega)
/-- What the bytes are while a loop turns them: the first k are capitals. -/
def part (s : ByteArray) (k j : Nat) : Int := if j < k then capI ((s.data.toList.getD j 0).toNat : Int) else ((s.data.toList.getD j 0).toNat : Int)
theorem part_bounds (s : ByteArray) (k j : Nat) : 0 ≤ part s k j ∧ part s k j ≤ 255 := by
  have h : (s.data.toList.getD j 0).toNat < 256 := UInt8.toNat_lt _
  unfold part capI
  split
  · split <;> omega
  · omega
theorem part_all (s : ByteArray) (j : Nat) (hj : j < (s.data.toList.map capU).length) : part s s.size j = (((s.data.toList.map capU)[j]).toNat : Int) := by
  have hj' : j < s.data.toList.length := by simpa using hj
  have hs : j < s.size := by simpa using hj'
  rw [List.getElem_map, capU_toNat]
  unfold part
  rw [if_pos hs, List.getD_eq_getElem?_getD, List.getElem?_eq_getElem hj']
  rfl
theorem part_zero (s : ByteArray) (j : Nat) (hj : j < s.data.size) : part s 0 j = (s.data[j].toNat : Int) := by
  unfold part
  rw [if_neg (by omega), List.getD_eq_getElem?_getD]
  rw [show s.data.toList[j]? = some s.data[j] by simp]
  rfl
/-- What holds of the memory while a loop turns the bytes at block b: the first k are capitals. -/
def Turned (s : ByteArray) (b k : Nat) (w wr : World) : Prop :=
  Below b w wr ∧ b < wr.heap.size ∧ (∀ j, j < s.size → wr.cell? ⟨b, j, none⟩ = some (.int .u8 (part s k j))) ∧ (∀ j, j < s.size → wr.frozen? ⟨b, j, none⟩ = false)
theorem turned_start (s : ByteArray) (w : World) (e : TypeId) (cap : Nat) : Turned s w.heap.size 0 w (w.alloc (.cells (bytesRow s cap) e ((bytesRow s cap).size, (bytesRow s cap).size + 1))) := by
  refine ⟨(Below.refl _ _).alloc (Nat.le_refl _) _, by simp, ?_, ?_⟩
  · intro j hj
    rw [World.cell?_alloc_mark, bytesRow_at s cap j hj, part_zero s j hj]
  · intro j hj
    rw [World.frozen?_alloc_mark]
    have : j < (bytesRow s cap).size := by
      unfold bytesRow
      simp
      exact Nat.lt_of_lt_of_le hj (Nat.le_add_right _ _)
    simp
    omega
theorem Turned.drew {s : ByteArray} {b k : Nat} {w wr : World} (h : Turned s b k w wr) : Turned s b k w wr.drew := ⟨h.1.drew, h.2.1, h.2.2.1, h.2.2.2⟩
theorem Turned.set {s : ByteArray} {b k : Nat} {w wr : World} (h : Turned s b k w wr) (hk : k < s.size) : Turned s b (k + 1) w (wr.setCell ⟨b, k, none⟩ (.int .u8 (capI (part s k k)))) := by
  refine ⟨h.1.setCell (Nat.le_refl _) _, by simpa using h.2.1, ?_, ?_⟩
  · intro j hj
    by_cases e : j = k
    · subst e
      rw [World.cell?_setCell_same _ _ _ (h.2.2.1 j hj)]
      unfold part
      rw [if_neg (by omega), if_pos (by omega)]
    · rw [World.cell?_setCell_other _ _ _ _ (by intro q; injection q; omega), h.2.2.1 j hj]
      unfold part
      by_cases f : j < k
      · rw [if_pos f, if_pos (by omega)]
      · rw [if_neg f, if_neg (by omega)]
  · intro j hj
    rw [World.frozen?_setCell]
    exact h.2.2.2 j hj
theorem Turned.keep {s : ByteArray} {b k : Nat} {w wr : World} (h : Turned s b k w wr) (hk : k < s.size) (hc : capI (part s k k) = part s k k) : Turned s b (k + 1) w wr := by
  refine ⟨h.1, h.2.1, ?_, h.2.2.2⟩
  intro j hj
  rw [h.2.2.1 j hj]
  by_cases e : j = k
  · subst e
    have : part s (j + 1) j = capI (part s j j) := by
      unfold part
      rw [if_pos (by omega : j < j + 1), if_neg (by omega : ¬ j < j)]
    rw [this, hc]
  · unfold part
    by_cases f : j < k
    · rw [if_pos f, if_pos (by omega)]
    · rw [if_neg f, if_neg (by omega)]
theorem Turned.back {s : ByteArray} {b : Nat} {w wr : World} (h : Turned s b s.size w wr) (src dst e : TypeId) (cap : Nat) (hs : Tryz.prog.underlying src = some (.slice e)) (he : Tryz.prog.underlying e = some (.int .u8)) (hd : Tryz.prog.underlying dst = some .string) :
    (convert src dst (.slice (some ⟨b, 0, none⟩) s.size cap)).run Tryz.prog wr = .ok (.string (capS s)) wr := by
  have := run_convert_bytes_back (P := Tryz.prog) wr src dst e ⟨b, 0, none⟩ cap (s.data.toList.map capU) hs he hd (fun j hj => by
    have hj' : j < s.size := by simpa using hj
    rw [← part_all s j hj, ← h.2.2.1 j hj']
    by_cases e : j = 0
    · subst e; rfl
    · simp [Addr.add, e])
  rw [show (s.data.toList.map capU).length = s.size by simp] at this
  exact this
set_option maxRecDepth 20000 in
set_option maxHeartbeats 2000000 in
theorem capitals_of (s : ByteArray) (w : World) (hs : s.size ≤ maxLen) : Calls Tryz.prog 99 #[.string s] w fun e w' => e = .returned (.string (capS s)) ∧ Below w.heap.size w w' := by
  unfold maxLen at hs
  have hconv := run_bytes_of_string (P := Tryz.prog) w 9 27 5 s rfl rfl rfl
  go_enter Tryz.func99, Tryz.ntmps99
  go_wp2_with fail
  go_loopw [9] (fun i wr => ∃ k : Nat, k ≤ s.size ∧ i = .int .i64 k ∧ Turned s w.heap.size k w wr) (fun i _ => s.size - (intOf i).toNat)
  case atStart => exact ⟨0, Nat.zero_le _, rfl, (turned_start s w 5 _).drew⟩
  case round =>
    obtain ⟨k, hk, rfl, H⟩ := hrel
    clear hconv
    by_cases hlt : k < s.size
    · have hc := H.2.2.1 k hlt
      have hf := H.2.2.2 k hlt
      have hb := part_bounds s k k
      go_wp2_with (go_at_call 107; refine (capital_of _ hb.1 hb.2 _).mono ?_; rintro e w1 ⟨rfl, rfl⟩)
      go_roundw
      case rel => exact ⟨k + 1, by omega, by go_num, H.set hlt⟩
      case measure => simp [intOf]; omega
    · have e : k = s.size := by omega
      subst e
      have hb := H.back 27 9 5 (grownCap w s.size 0 5) rfl rfl rfl
      have hd := H.drew.back 27 9 5 (grownCap w s.size 0 5) rfl rfl rfl
      go_wp2
      go_ret
      first
      | exact ⟨rfl, H.1⟩
      | exact ⟨rfl, H.1.drew⟩
end Go.Proofs.YtkickdmomompjaaGreat
namespace Go.Proofs.YtkickdmomompjaaGreat
set_option linter.unusedVariables false
open Go.RowKit
/-- A text's byte; behind its end 0. -/
def byt (s : ByteArray) (i : Nat) : Int := ((s.data.toList.getD i 0).toNat : Int)
theorem byt_in (s : ByteArray) (i : Nat) (h : i < s.size) : byt s i = (s[i].toNat : Int) := by
  unfold byt
  rw [List.getD_eq_getElem?_getD, show s.data.toList[i]? = some s[i] by rw [Array.getElem?_toList, Array.getElem?_eq_getElem h]; rfl]
  rfl
theorem byt_out (s : ByteArray) (i : Nat) (h : s.size ≤ i) : byt s i = 0 := by
  unfold byt
  rw [List.getD_eq_getElem?_getD, List.getElem?_eq_none (by simpa using h)]
  rfl
theorem byt_bounds (s : ByteArray) (i : Nat) : 0 ≤ byt s i ∧ byt s i ≤ 255 := by
  have h : (s.data.toList.getD i 0).toNat < 256 := UInt8.toNat_lt _
  unfold byt
  omega
theorem isLetter_of (c : Int) (w : World) : Calls Tryz.prog 57 #[.int .u8 c] w fun e w' => e = .returned (.bool (letB c)) ∧ w' = w := by
  generalize hr : letB c = r
  have R : Hid (letB c = r) := hr
  clear hr
  rcases bytes6 c with h | ⟨h, h'⟩ | ⟨h, h'⟩ | ⟨h, h'⟩ | ⟨h, h'⟩ | rfl | rfl | ⟨h, h'⟩ | h
  all_goals
    go_enter Tryz.func57, Tryz.ntmps57
    go_wp2
    go_ret
    refine ⟨ret_bool ?_, rfl⟩
    rw [← R.out]
    go_light
    unfold letB
    rw [Bool.eq_iff_iff]
    simp only [Bool.or_eq_true, decide_eq_true_eq, Bool.false_eq_true, true_iff, false_iff]
    omega
/-- Is a text a name? -/
def nameB (s : ByteArray) : Bool := decide (1 ≤ s.size ∧ s.size ≤ 24) && letB (byt s 0) && decide (runL namB s.data.toList = s.size)
set_option maxHeartbeats 2000000 in
theorem IsName_of (s : ByteArray) (w : World) (hs : s.size ≤ maxLen) : Calls Tryz.prog 33 #[.string s] w fun e w' => e = .returned (.bool (nameB s)) ∧ w' = w := by
  generalize hn : nameB s = r
  have N : Hid (nameB s = r) := hn
  clear hn
  go_enter Tryz.func33, Tryz.ntmps33
  by_cases h1 : s.size ≤ 24
  · by_cases h0 : 0 < s.size
    · have hb : Hid (byt s 0 = s[0].toNat) := byt_in s 0 h0
      cases c : letB (s[0].toNat : Int)
      · have C : Hid (letB (s[0].toNat : Int) = false) := c
        clear c
        go_wp2_with (first
          | (go_at_call 57; refine (isLetter_of _ _).mono ?_; rintro e w1 ⟨rfl, rfl⟩; rw [C.out])
          | (go_at_call 58; refine (runEnd_name s 0 _ hs (Nat.zero_le _)).mono ?_; rintro e w1 ⟨rfl, rfl⟩))
        go_ret
        refine ⟨ret_bool ?_, rfl⟩
        rw [← N.out, nameB, hb.out, C.out]
        simp
      · have C : Hid (letB (s[0].toNat : Int) = true) := c
        clear c
        go_wp2_with (first
          | (go_at_call 57; refine (isLetter_of _ _).mono ?_; rintro e w1 ⟨rfl, rfl⟩; rw [C.out])
          | (go_at_call 58; refine (runEnd_name s 0 _ hs (Nat.zero_le _)).mono ?_; rintro e w1 ⟨rfl, rfl⟩))
        go_ret
        refine ⟨ret_bool ?_, rfl⟩
        rw [← N.out, nameB, hb.out, C.out]
        go_light
        rw [decide_eq_true (show 1 ≤ s.size ∧ s.size ≤ 24 from ⟨h0, h1⟩), Bool.eq_iff_iff]
        simp
        try omega
    · go_wp2
      go_ret
      refine ⟨ret_bool ?_, rfl⟩
      rw [← N.out, nameB]
      simp [show ¬ 1 ≤ s.size by omega]
  · go_wp2
    go_ret
    refine ⟨ret_bool ?_, rfl⟩
    rw [← N.out, nameB]
    simp [show ¬ s.size ≤ 24 by omega]
end Go.Proofs.YtkickdmomompjaaGreat
namespace Go.Proofs.YtkickdmomompjaaGreat
set_option linter.unusedVariables false
open Go.RowKit
theorem byteAt_of (s : ByteArray) (i : Nat) (w : World) : Calls Tryz.prog 105 #[.string s, .int .i64 i] w fun e w' => e = .returned (.int .u8 (byt s i)) ∧ w' = w := by
  go_enter Tryz.func105, Tryz.ntmps105
  by_cases h : i < s.size
  · have hb : Hid (byt s i = s[i].toNat) := byt_in s i h
    go_wp2
    go_ret
    exact ⟨ret_int hb.out.symm, rfl⟩
  · have hb : Hid (byt s i = 0) := byt_out s i (by omega)
    go_wp2
    go_ret
    exact ⟨ret_int hb.out.symm, rfl⟩
/-- How many bits stand at a letter in capitals; 0: it is no such letter. -/
def bitN (c : Int) : Int := if c = 88 then 1 else if c = 66 then 8 else if c = 87 then 16 else if c = 68 then 32 else if c = 76 then 64 else 0
def areaB (c : Int) : Bool := decide (c = 73 ∨ c = 81 ∨ c = 77)
theorem bit6 (c : Int) : c = 88 ∨ c = 66 ∨ c = 87 ∨ c = 68 ∨ c = 76 ∨ (c ≠ 88 ∧ c ≠ 66 ∧ c ≠ 87 ∧ c ≠ 68 ∧ c ≠ 76) := by omega
theorem bitN_none (c : Int) (h : c ≠ 88 ∧ c ≠ 66 ∧ c ≠ 87 ∧ c ≠ 68 ∧ c ≠ 76) : bitN c = 0 := by
  unfold bitN
  rw [if_neg h.1, if_neg h.2.1, if_neg h.2.2.1, if_neg h.2.2.2.1, if_neg h.2.2.2.2]
set_option maxHeartbeats 1000000 in
theorem addressBits_of (c : Int) (h0 : 0 ≤ c) (h1 : c ≤ 255) (w : World) : Calls Tryz.prog 100 #[.int .u8 c] w fun e w' => e = .returned (.int .i64 (bitN (capI c))) ∧ w' = w := by
  generalize hd : capI c = d
  have D : Hid (capI c = d) := hd
  clear hd
  rcases bit6 d with rfl | rfl | rfl | rfl | rfl | h
  case inr.inr.inr.inr.inr =>
    have e1 : (d == 88) = false := by simp; omega
    have e2 : (d == 66) = false := by simp; omega
    have e3 : (d == 87) = false := by simp; omega
    have e4 : (d == 68) = false := by simp; omega
    have e5 : (d == 76) = false := by simp; omega
    go_enter Tryz.func100, Tryz.ntmps100
    go_wp2_with (go_at_call 107; refine (capital_of _ h0 h1 _).mono ?_; rintro e w1 ⟨rfl, rfl⟩; rw [D.out])
    go_ret
    exact ⟨ret_int (bitN_none d h).symm, rfl⟩
  all_goals
    go_enter Tryz.func100, Tryz.ntmps100
    go_wp2_with (go_at_call 107; refine (capital_of _ h0 h1 _).mono ?_; rintro e w1 ⟨rfl, rfl⟩; rw [D.out])
    go_ret
    exact ⟨ret_int rfl, rfl⟩
set_option maxHeartbeats 1000000 in
theorem isArea_of (c : Int) (h0 : 0 ≤ c) (h1 : c ≤ 255) (w : World) : Calls Tryz.prog 106 #[.int .u8 c] w fun e w' => e = .returned (.bool (areaB (capI c))) ∧ w' = w := by
  generalize hd : capI c = d
  have D : Hid (capI c = d) := hd
  clear hd
  by_cases e1 : d = 73
  · subst e1
    go_enter Tryz.func106, Tryz.ntmps106
    go_wp2_with (go_at_call 107; refine (capital_of _ h0 h1 _).mono ?_; rintro e w1 ⟨rfl, rfl⟩; rw [D.out])
    go_ret
    exact ⟨ret_bool rfl, rfl⟩
  · by_cases e2 : d = 81
    · subst e2
      go_enter Tryz.func106, Tryz.ntmps106
      go_wp2_with (go_at_call 107; refine (capital_of _ h0 h1 _).mono ?_; rintro e w1 ⟨rfl, rfl⟩; rw [D.out])
      go_ret
      exact ⟨ret_bool rfl, rfl⟩
    · have f1 : (d == 73) = false := by simp; omega
      have f2 : (d == 81) = false := by simp; omega
      go_enter Tryz.func106, Tryz.ntmps106
      go_wp2_with (go_at_call 107; refine (capital_of _ h0 h1 _).mono ?_; rintro e w1 ⟨rfl, rfl⟩; rw [D.out])
      go_ret
      refine ⟨ret_bool ?_, rfl⟩
      go_light
      unfold areaB
      rw [Bool.eq_iff_iff]
      simp [e1, e2]
/-- How long the number of an address is. -/
def digN (s : ByteArray) : Nat := runL digB (s.data.toList.drop 3)
/-- Does an address begin at the text's beginning, up to its number? -/
def headB (s : ByteArray) : Bool := decide (byt s 0 = 37) && areaB (capI (byt s 1)) && decide (bitN (capI (byt s 2)) ≠ 0) && decide (1 ≤ digN s ∧ digN s ≤ 4 ∧ ¬ (1 < digN s ∧ byt s 3 = 48))
/-- The place behind the address that a text begins with; -1: none does. -/
def adE (s : ByteArray) : Int :=
  if headB s then
    if 1 < bitN (capI (byt s 2)) then 3 + digN s
    else if byt s (3 + digN s) = 46 ∧ 48 ≤ byt s (4 + digN s) ∧ byt s (4 + digN s) ≤ 55 then 5 + digN s else -1
  else -1
theorem digN_le (s : ByteArray) (h : 3 ≤ s.size) : 3 + digN s ≤ s.size := by
  have := runL_le digB (s.data.toList.drop 3)
  unfold digN
  simp at this
  have e : s.data.size = s.size := rfl
  omega
theorem bit_size (s : ByteArray) (h : bitN (capI (byt s 2)) ≠ 0) : 3 ≤ s.size := by
  rcases Nat.lt_or_ge 2 s.size with q | q
  · omega
  · rw [byt_out s 2 q] at h
    exact absurd rfl h
theorem byteAt_z (s : ByteArray) (i : Int) (w : World) (h : 0 ≤ i) : Calls Tryz.prog 105 #[.string s, .int .i64 i] w fun e w' => e = .returned (.int .u8 (byt s i.toNat)) ∧ w' = w := by
  obtain ⟨n, rfl⟩ := Int.eq_ofNat_of_zero_le h
  exact byteAt_of s n w
theorem runEnd_digit_z (s : ByteArray) (i : Int) (w : World) (hs : s.size ≤ maxLen) (h0 : 0 ≤ i) (hi : i ≤ s.size) :
    Calls Tryz.prog 58 #[.string s, .int .i64 i, .func (.func 77) #[] #[]] w fun e w' => e = .returned (.int .i64 ((i.toNat + runL digB (s.data.toList.drop i.toNat) : Nat) : Int)) ∧ w' = w := by
  obtain ⟨n, rfl⟩ := Int.eq_ofNat_of_zero_le h0
  exact runEnd_digit s n w hs (by omega)
theorem adE_head (s : ByteArray) (h : headB s = false) : adE s = -1 := by
  unfold adE
  rw [h]
  rfl
/-- What is left behind the number. -/
def tailE (s : ByteArray) (d : Nat) : Int :=
  if 1 ≤ d ∧ d ≤ 4 ∧ ¬ (1 < d ∧ byt s 3 = 48) then
    if 1 < bitN (capI (byt s 2)) then 3 + d
    else if byt s (3 + d) = 46 ∧ 48 ≤ byt s (4 + d) ∧ byt s (4 + d) ≤ 55 then 5 + d else -1
  else -1
theorem adE_tail (s : ByteArray) (c0 : byt s 0 = 37) (c1 : areaB (capI (byt s 1)) = true) (c2 : ¬ bitN (capI (byt s 2)) = 0) : adE s = tailE s (digN s) := by
  unfold adE tailE headB
  rw [c0, c1, decide_eq_true c2]
  by_cases h : 1 ≤ digN s ∧ digN s ≤ 4 ∧ ¬ (1 < digN s ∧ byt s 3 = 48)
  · rw [if_pos h, decide_eq_true h]
    rfl
  · rw [if_neg h, decide_eq_false h]
    rfl
set_option maxHeartbeats 1000000 in
theorem addressEnd_in (s : ByteArray) (w : World) (hs : s.size ≤ maxLen) (c0 : byt s 0 = 37) (c1 : areaB (capI (byt s 1)) = true) (c2 : ¬ bitN (capI (byt s 2)) = 0) (r : Int) (R : Hid (adE s = r)) :
    Calls Tryz.prog 98 #[.string s, .int .i64 0] w fun e w' => e = .returned (.int .i64 r) ∧ w' = w := by
  have b1 := byt_bounds s 1
  have hz := bit_size s c2
  have hd := digN_le s hz
  have T : Hid (tailE s (digN s) = r) := by show _ = _; rw [← R.out, adE_tail s c0 c1 c2]
  clear R
  have hm : s.size ≤ 9223372036854775807 := hs
  have D : Hid (runL digB (s.data.toList.drop 3) = digN s) := rfl
  have B2 : Hid (byt s 2 = s[2].toNat) := byt_in s 2 (by omega)
  have b2 := byt_bounds s 2
  rw [B2.out] at c2 b2
  have C1 : Hid (areaB (capI (byt s 1)) = true) := c1
  clear c1
  generalize hg : digN s = d at *
  clear hg
  have f2 : (bitN (capI (s[2].toNat : Int)) == 0) = false := by simpa using c2
  go_enter Tryz.func98, Tryz.ntmps98
  go_wp2_with (first
    | (go_at_call 106; refine (isArea_of _ b1.1 b1.2 _).mono ?_; rintro e w1 ⟨rfl, rfl⟩; rw [C1.out])
    | (go_at_call 100; refine (addressBits_of _ b2.1 b2.2 _).mono ?_; rintro e w1 ⟨rfl, rfl⟩)
    | (go_at_call 58; refine (runEnd_digit_z s _ _ hs (by omega) (by omega)).mono ?_; rintro e w1 ⟨rfl, rfl⟩; simp only [Int.reduceToNat]; rw [D.out])
    | (go_at_call 105; refine (byteAt_z s _ _ (by omega)).mono ?_; rintro e w1 ⟨rfl, rfl⟩; simp only [Int.toNat_zero, Int.toNat_one, Int.reduceToNat]; try rw [B2.out]))
  all_goals
    go_ret
    refine ⟨ret_int ?_, rfl⟩
    rw [← T.out]
    go_light
    try simp only [show 3 + d + 1 = 4 + d by omega] at *
    simp only [beq_iff_eq, beq_eq_false_iff_ne] at *
    unfold tailE
    rw [B2.out]
    rcases Nat.lt_or_ge 3 s.size with q | q
    · have B4 : byt s 3 = s[3].toNat := byt_in s 3 q
      repeat' split
      all_goals omega
    · repeat' split
      all_goals omega
set_option maxHeartbeats 400000 in
theorem addressEnd_of (s : ByteArray) (w : World) (hs : s.size ≤ maxLen) : Calls Tryz.prog 98 #[.string s, .int .i64 0] w fun e w' => e = .returned (.int .i64 (adE s)) ∧ w' = w := by
  have b0 := byt_bounds s 0
  have b1 := byt_bounds s 1
  have b2 := byt_bounds s 2
  generalize hr : adE s = r
  have R : Hid (adE s = r) := hr
  clear hr
  by_cases c0 : byt s 0 = 37
  · cases c1 : areaB (capI (byt s 1))
    · have R' : Hid (-1 = r) := by
        show _ = _
        rw [← R.out, adE_head]
        unfold headB
        simp [c1]
      have C1 : Hid (areaB (capI (byt s 1)) = false) := c1
      clear c1 R
      go_enter Tryz.func98, Tryz.ntmps98
      go_wp2_with (first
        | (go_at_call 105; refine (byteAt_z s _ _ (by omega)).mono ?_; rintro e w1 ⟨rfl, rfl⟩; simp only [Int.toNat_zero, Int.toNat_one])
        | (go_at_call 106; refine (isArea_of _ b1.1 b1.2 _).mono ?_; rintro e w1 ⟨rfl, rfl⟩; rw [C1.out]))
      go_ret
      exact ⟨ret_int R'.out, rfl⟩
    · have C1 : Hid (areaB (capI (byt s 1)) = true) := c1
      by_cases c2 : bitN (capI (byt s 2)) = 0
      · have R' : Hid (-1 = r) := by
          show _ = _
          rw [← R.out, adE_head]
          unfold headB
          simp [c2]
        have C2 : Hid (bitN (capI (byt s 2)) = 0) := c2
        clear c1 c2 R
        go_enter Tryz.func98, Tryz.ntmps98
        go_wp2_with (first
          | (go_at_call 105; refine (byteAt_z s _ _ (by omega)).mono ?_; rintro e w1 ⟨rfl, rfl⟩; simp only [Int.toNat_zero, Int.toNat_one, Int.reduceToNat])
          | (go_at_call 106; refine (isArea_of _ b1.1 b1.2 _).mono ?_; rintro e w1 ⟨rfl, rfl⟩; rw [C1.out])
          | (go_at_call 100; refine (addressBits_of _ b2.1 b2.2 _).mono ?_; rintro e w1 ⟨rfl, rfl⟩; rw [C2.out]))
        go_ret
        exact ⟨ret_int R'.out, rfl⟩
      · exact addressEnd_in s w hs c0 c1 c2 r R
  · have R' : Hid (-1 = r) := by
      show _ = _
      rw [← R.out, adE_head]
      unfold headB
      simp [c0]
    have f0 : (byt s 0 == 37) = false := by simpa using c0
    clear R
    go_enter Tryz.func98, Tryz.ntmps98
    go_wp2_with (go_at_call 105; refine (byteAt_z s _ _ (by omega)).mono ?_; rintro e w1 ⟨rfl, rfl⟩; simp only [Int.toNat_zero])
    go_ret
    exact ⟨ret_int R'.out, rfl⟩
end Go.Proofs.YtkickdmomompjaaGreat
namespace Go.Proofs.YtkickdmomompjaaGreat
set_option linter.unusedVariables false
open Go.RowKit
/-- 1 of an input, 2 of an output, 0 of memory. -/
def dirN (c : Int) : Int := if c = 73 then 1 else if c = 81 then 2 else 0
/-- Is a text an address in capitals? -/
def addrB (s : ByteArray) : Bool := decide (adE s = s.size) && decide (capS s = s)
/-- What IsAddr answers. -/
def addrV (s : ByteArray) : Value := if addrB s then .tuple #[.int .i64 (bitN (byt s 2)), .int .i64 (dirN (byt s 1)), .bool true] else .tuple #[.int .i64 0, .int .i64 0, .bool false]
theorem addrV_no (s : ByteArray) (h : ¬ adE s = s.size ∨ ¬ capS s = s) : addrV s = .tuple #[.int .i64 0, .int .i64 0, .bool false] := by
  have : addrB s = false := by
    unfold addrB
    rcases h with h | h <;> simp [h]
  unfold addrV
  rw [this]
  rfl
theorem addrV_yes (s : ByteArray) (h : adE s = s.size) (h' : capS s = s) : addrV s = .tuple #[.int .i64 (bitN (byt s 2)), .int .i64 (dirN (byt s 1)), .bool true] := by
  have : addrB s = true := by
    unfold addrB
    simp [h, h']
  unfold addrV
  rw [this]
  rfl
theorem ret_val {a b : Value} (h : a = b) : Ending.returned a = .returned b := by rw [h]
theorem adE_ok (s : ByteArray) (h : adE s = s.size) : byt s 0 = 37 ∧ areaB (capI (byt s 1)) = true ∧ bitN (capI (byt s 2)) ≠ 0 ∧ 3 ≤ s.size := by
  cases g : headB s
  · rw [adE_head s g] at h
    omega
  · unfold headB at g
    simp only [Bool.and_eq_true, decide_eq_true_eq] at g
    exact ⟨g.1.1.1, g.1.1.2, g.1.2, bit_size s g.1.2⟩
theorem capU_of_capS (s : ByteArray) (h : capS s = s) (i : Nat) : capI (byt s i) = byt s i := by
  rcases Nat.lt_or_ge i s.size with q | q
  · have e : (s.data.toList.map capU) = s.data.toList := by
      have := congrArg (fun x : ByteArray => x.data.toList) h
      simpa [capS] using this
    have q' : i < s.data.toList.length := by simpa using q
    have f : (s.data.toList.map capU)[i]? = s.data.toList[i]? := by rw [e]
    rw [List.getElem?_map, List.getElem?_eq_getElem q'] at f
    simp only [Option.map_some, Option.some.injEq] at f
    have g := capU_toNat (s.data.toList[i])
    rw [f] at g
    unfold byt
    rw [List.getD_eq_getElem?_getD, List.getElem?_eq_getElem q']
    exact g.symm
  · rw [byt_out s i q]
    rfl
theorem text_ne {a b : ByteArray} (h : ¬ a = b) : (a.toList == b.toList) = false := by
  rw [beq_eq_false_iff_ne]
  intro q
  rw [ByteArray.toList_eq, ByteArray.toList_eq] at q
  exact h (by cases a; cases b; simp at q; rw [q])
/-- The byte of an address that tells its direction, as the program's and the document's switch have it. -/
theorem dir3 (c : Int) : c = 73 ∨ c = 81 ∨ (c ≠ 73 ∧ c ≠ 81) := by omega
theorem dirN_no (c : Int) (h : c ≠ 73 ∧ c ≠ 81) : dirN c = 0 := by
  unfold dirN
  rw [if_neg h.1, if_neg h.2]
set_option maxHeartbeats 1000000 in
theorem IsAddr_yes (s : ByteArray) (w : World) (hs : s.size ≤ maxLen) (E : Hid (adE s = s.size)) (C : Hid (capS s = s)) (hz : 3 ≤ s.size) : Calls Tryz.prog 81 #[.string s] w fun e w' => e = .returned (addrV s) ∧ Below w.heap.size w w' := by
  generalize hv : addrV s = v
  have V : Hid (v = .tuple #[.int .i64 (bitN (byt s 2)), .int .i64 (dirN (byt s 1)), .bool true]) := by
    show _ = _
    rw [← hv, addrV_yes s E.out C.out]
  clear hv
  have hm : s.size ≤ 9223372036854775807 := hs
  have b1 : Hid (byt s 1 = s[1].toNat) := byt_in s 1 (by omega)
  have b2 : Hid (byt s 2 = s[2].toNat) := byt_in s 2 (by omega)
  have bb := byt_bounds s 2
  rw [b2.out] at bb
  have C2 : Hid (capI (s[2].toNat : Int) = s[2].toNat) := by
    show _ = _
    rw [← b2.out]
    exact capU_of_capS s C.out 2
  rw [b1.out, b2.out] at V
  rcases dir3 (s[1].toNat : Int) with h | h | h
  all_goals
    first
    | have f1 : ((s[1].toNat : Int) == 73) = true := by simpa using h
    | have f1 : ((s[1].toNat : Int) == 73) = false := by simp; omega
    first
    | have f2 : ((s[1].toNat : Int) == 81) = true := by simpa using h
    | have f2 : ((s[1].toNat : Int) == 81) = false := by simp; omega
    have V2 : Hid (v = .tuple #[.int .i64 (bitN (s[2].toNat : Int)), .int .i64 (if (s[1].toNat : Int) = 73 then 1 else if (s[1].toNat : Int) = 81 then 2 else 0), .bool true]) := V
    have H : Hid _ := h
    clear V h
    go_enter Tryz.func81, Tryz.ntmps81
    go_wp2_with (first
      | (go_at_call 98; refine (addressEnd_of s _ hs).mono ?_; rintro e w1 ⟨rfl, rfl⟩; rw [E.out])
      | (go_at_call 99; refine (capitals_of s _ hs).mono ?_; rintro e w1 ⟨rfl, hB⟩; rw [C.out])
      | (go_at_call 100; refine (addressBits_of _ bb.1 bb.2 _).mono ?_; rintro e w1 ⟨rfl, rfl⟩; rw [C2.out]))
    go_returns
    refine ⟨ret_val ?_, by assumption⟩
    rw [V2.out]
    have h := H.out
    first
    | (rw [if_pos h]; rfl)
    | (rw [if_neg (by omega), if_pos h]; rfl)
    | (rw [if_neg h.1, if_neg h.2]; rfl)
set_option maxHeartbeats 1000000 in
theorem IsAddr_of (s : ByteArray) (w : World) (hs : s.size ≤ maxLen) : Calls Tryz.prog 81 #[.string s] w fun e w' => e = .returned (addrV s) ∧ Below w.heap.size w w' := by
  by_cases hE : adE s = s.size
  · by_cases hC : capS s = s
    · exact IsAddr_yes s w hs hE hC (adE_ok s hE).2.2.2
    · generalize hv : addrV s = v
      have V' : Hid (v = .tuple #[.int .i64 0, .int .i64 0, .bool false]) := by
        show _ = _
        rw [← hv, addrV_no s (Or.inr hC)]
      have E : Hid (adE s = s.size) := hE
      have f := text_ne hC
      clear hE hv hC
      go_enter Tryz.func81, Tryz.ntmps81
      go_wp2_with (first
        | (go_at_call 98; refine (addressEnd_of s _ hs).mono ?_; rintro e w1 ⟨rfl, rfl⟩; rw [E.out])
        | (go_at_call 99; refine (capitals_of s _ hs).mono ?_; rintro e w1 ⟨rfl, hB⟩))
      go_returns
      exact ⟨ret_val V'.out.symm, by assumption⟩
  · generalize hv : addrV s = v
    have V' : Hid (v = .tuple #[.int .i64 0, .int .i64 0, .bool false]) := by
      show _ = _
      rw [← hv, addrV_no s (Or.inl hE)]
    have f : (adE s == (s.size : Int)) = false := by simpa using hE
    clear hv
    go_enter Tryz.func81, Tryz.ntmps81
    go_wp2_with (go_at_call 98; refine (addressEnd_of s _ hs).mono ?_; rintro e w1 ⟨rfl, rfl⟩)
    go_returns
    exact ⟨ret_val V'.out.symm, Below.refl _ _⟩
end Go.Proofs.YtkickdmomompjaaGreat
namespace Go.Proofs.YtkickdmomompjaaGreat
set_option linter.unusedVariables false
open Go.RowKit
theorem infoCi : ∃ i z, Tryz.prog.info? 56 = some i ∧ i.zero = some z ∧ i.size = 11 ∧ i.bytes = 96 ∧ z.cells.size = 11 := by
  obtain ⟨i, hi, hz⟩ := Option.map_eq_some_iff.1 (show (Tryz.prog.info? 56).map (fun i => (i.zero.map (·.cells.size), i.size, i.bytes)) = some (some 11, 11, 96) by kernel_rfl)
  simp only [Prod.mk.injEq] at hz
  obtain ⟨z, h1, h2⟩ := Option.map_eq_some_iff.1 hz.1
  exact ⟨i, z, hi, h1, hz.2.1, hz.2.2, h2⟩
theorem slC_nil (a : Addr) (n cap : Nat) (w : World) : (binOp .eql 22 (.slice (some a) n cap) (.slice none 0 0)).run Tryz.prog w = .ok (.bool false) w := by kernel_rfl
theorem slC_nilT (n cap : Nat) (w : World) : (binOp .eql 22 (.slice none n cap) (.slice none 0 0)).run Tryz.prog w = .ok (.bool true) w := by kernel_rfl
theorem owC_none (w : World) : (w.alloc (.cells #[] 56)).ownsRow w.heap.size 56 11 (.slice (some ⟨w.heap.size, 0, none⟩) 0 0) 0 [] :=
  ⟨rfl, .inr ⟨w.heap.size, 0, #[], rfl, Nat.le_refl _, heap_alloc_last w _, Nat.le_refl _, Nat.zero_le _, rfl, rfl⟩⟩
theorem infoOi : ∃ i z, Tryz.prog.info? 88 = some i ∧ i.zero = some z ∧ i.size = 10 ∧ i.bytes = 88 ∧ z.cells.size = 10 := by
  obtain ⟨i, hi, hz⟩ := Option.map_eq_some_iff.1 (show (Tryz.prog.info? 88).map (fun i => (i.zero.map (·.cells.size), i.size, i.bytes)) = some (some 10, 10, 88) by kernel_rfl)
  simp only [Prod.mk.injEq] at hz
  obtain ⟨z, h1, h2⟩ := Option.map_eq_some_iff.1 hz.1
  exact ⟨i, z, hi, h1, hz.2.1, hz.2.2, h2⟩
theorem slO_nil (a : Addr) (n cap : Nat) (w : World) : (binOp .eql 63 (.slice (some a) n cap) (.slice none 0 0)).run Tryz.prog w = .ok (.bool false) w := by kernel_rfl
theorem slO_nilT (n cap : Nat) (w : World) : (binOp .eql 63 (.slice none n cap) (.slice none 0 0)).run Tryz.prog w = .ok (.bool true) w := by kernel_rfl
theorem owO_none (w : World) : (w.alloc (.cells #[] 88)).ownsRow w.heap.size 88 10 (.slice (some ⟨w.heap.size, 0, none⟩) 0 0) 0 [] :=
  ⟨rfl, .inr ⟨w.heap.size, 0, #[], rfl, Nat.le_refl _, heap_alloc_last w _, Nat.le_refl _, Nat.zero_le _, rfl, rfl⟩⟩
theorem infoLi : ∃ i z, Tryz.prog.info? 103 = some i ∧ i.zero = some z ∧ i.size = 3 ∧ i.bytes = 24 ∧ z.cells.size = 3 := by
  obtain ⟨i, hi, hz⟩ := Option.map_eq_some_iff.1 (show (Tryz.prog.info? 103).map (fun i => (i.zero.map (·.cells.size), i.size, i.bytes)) = some (some 3, 3, 24) by kernel_rfl)
  simp only [Prod.mk.injEq] at hz
  obtain ⟨z, h1, h2⟩ := Option.map_eq_some_iff.1 hz.1
  exact ⟨i, z, hi, h1, hz.2.1, hz.2.2, h2⟩
theorem slL_nil (a : Addr) (n cap : Nat) (w : World) : (binOp .eql 64 (.slice (some a) n cap) (.slice none 0 0)).run Tryz.prog w = .ok (.bool false) w := by kernel_rfl
theorem slL_nilT (n cap : Nat) (w : World) : (binOp .eql 64 (.slice none n cap) (.slice none 0 0)).run Tryz.prog w = .ok (.bool true) w := by kernel_rfl
theorem owL_none (w : World) : (w.alloc (.cells #[] 103)).ownsRow w.heap.size 103 3 (.slice (some ⟨w.heap.size, 0, none⟩) 0 0) 0 [] :=
  ⟨rfl, .inr ⟨w.heap.size, 0, #[], rfl, Nat.le_refl _, heap_alloc_last w _, Nat.le_refl _, Nat.zero_le _, rfl, rfl⟩⟩
theorem infoNi : ∃ i z, Tryz.prog.info? 3 = some i ∧ i.zero = some z ∧ i.size = 1 ∧ i.bytes = 8 ∧ z.cells.size = 1 := by
  obtain ⟨i, hi, hz⟩ := Option.map_eq_some_iff.1 (show (Tryz.prog.info? 3).map (fun i => (i.zero.map (·.cells.size), i.size, i.bytes)) = some (some 1, 1, 8) by kernel_rfl)
  simp only [Prod.mk.injEq] at hz
  obtain ⟨z, h1, h2⟩ := Option.map_eq_some_iff.1 hz.1
  exact ⟨i, z, hi, h1, hz.2.1, hz.2.2, h2⟩
theorem slN_nil (a : Addr) (n cap : Nat) (w : World) : (binOp .eql 59 (.slice (some a) n cap) (.slice none 0 0)).run Tryz.prog w = .ok (.bool false) w := by kernel_rfl
theorem slN_nilT (n cap : Nat) (w : World) : (binOp .eql 59 (.slice none n cap) (.slice none 0 0)).run Tryz.prog w = .ok (.bool true) w := by kernel_rfl
theorem owN_none (w : World) : (w.alloc (.cells #[] 3)).ownsRow w.heap.size 3 1 (.slice (some ⟨w.heap.size, 0, none⟩) 0 0) 0 [] :=
  ⟨rfl, .inr ⟨w.heap.size, 0, #[], rfl, Nat.le_refl _, heap_alloc_last w _, Nat.le_refl _, Nat.zero_le _, rfl, rfl⟩⟩
end Go.Proofs.YtkickdmomompjaaGreat
