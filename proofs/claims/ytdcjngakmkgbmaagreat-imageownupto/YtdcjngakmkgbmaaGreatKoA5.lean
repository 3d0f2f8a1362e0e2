/- What the check of an image answers, as functions; no statement of the seat is proved here. -/
import Derived.Test.YtdcjngakmkgbmaaGreatRows
import Derived.WalkKit
import Derived.WalkSpells
import Derived.WalkLawsBesides
import Derived.Handy
import Derived.Deep.Light
import Derived.Laws.IdiomStrings
import Derived.Test.YtdcjngakmkgbmaaGreatKoA3
import Derived.Test.YtdcjngakmkgbmaaGreatKoA4
namespace Go.Proofs.YtdcjngakmkgbmaaGreat
set_option linter.unusedVariables false
open Go.RowKit
def letB (c : Int) : Bool := decide (65 ≤ c ∧ c ≤ 90 ∨ 97 ≤ c ∧ c ≤ 122)
def digB (c : Int) : Bool := decide (48 ≤ c ∧ c ≤ 57)
def namB (c : Int) : Bool := letB c || digB c || decide (c = 95)
theorem bytes6 (c : Int) : c < 48 ∨ (48 ≤ c ∧ c ≤ 57) ∨ (57 < c ∧ c < 65) ∨ (65 ≤ c ∧ c ≤ 90) ∨ (90 < c ∧ c < 95) ∨ c = 95 ∨ c = 96 ∨ (97 ≤ c ∧ c ≤ 122) ∨ 122 < c := by omega
set_option maxHeartbeats 1000000 in
theorem isDigit_of (c : Int) (w : World) : Calls Tryz.prog 117 #[.int .u8 c] w fun e w' => e = .returned (.bool (digB c)) ∧ w' = w := by
  go_enter Tryz.func117, Tryz.ntmps117
  go_wp2
  all_goals
    go_ret
    refine ⟨ret_bool ?_, rfl⟩
    unfold digB
    rw [Bool.eq_iff_iff]
    simp
    omega
set_option maxHeartbeats 1000000 in
theorem isNameByte_of (c : Int) (w : World) : Calls Tryz.prog 89 #[.int .u8 c] w fun e w' => e = .returned (.bool (namB c)) ∧ w' = w := by
  generalize hr : namB c = r
  have R : Hid (namB c = r) := hr
  clear hr
  rcases bytes6 c with h | ⟨h, h'⟩ | ⟨h, h'⟩ | ⟨h, h'⟩ | ⟨h, h'⟩ | rfl | rfl | ⟨h, h'⟩ | h
  case inr.inr.inr.inr.inr.inl =>
    go_enter Tryz.func89, Tryz.ntmps89
    go_wp2
    go_ret
    exact ⟨ret_bool (by rw [← R.out]; rfl), rfl⟩
  case inr.inr.inr.inr.inr.inr.inl =>
    go_enter Tryz.func89, Tryz.ntmps89
    go_wp2
    go_ret
    exact ⟨ret_bool (by rw [← R.out]; rfl), rfl⟩
  all_goals
    (try have c95 : (c == 95) = false := by simp; omega)
    go_enter Tryz.func89, Tryz.ntmps89
    go_wp2
    go_ret
    refine ⟨ret_bool ?_, rfl⟩
    rw [← R.out]
    go_light
    unfold namB letB digB
    rw [Bool.eq_iff_iff]
    simp only [Bool.or_eq_true, decide_eq_true_eq, Bool.false_eq_true, true_iff, false_iff]
    omega
set_option maxHeartbeats 1000000 in
theorem letterR_of (c : Int) (w : World) : Calls Tryz.prog 77 #[.int .u8 c] w fun e w' => e = .returned (.bool (letB c)) ∧ w' = w := by
  generalize hr : letB c = r
  have R : Hid (letB c = r) := hr
  clear hr
  rcases bytes6 c with h | ⟨h, h'⟩ | ⟨h, h'⟩ | ⟨h, h'⟩ | ⟨h, h'⟩ | rfl | rfl | ⟨h, h'⟩ | h
  all_goals
    go_enter Tryz.func77, Tryz.ntmps77
    go_wp2
    go_ret
    refine ⟨ret_bool ?_, rfl⟩
    rw [← R.out]
    go_light
    unfold letB
    rw [Bool.eq_iff_iff]
    simp only [Bool.or_eq_true, decide_eq_true_eq, Bool.false_eq_true, true_iff, false_iff]
    omega
/-- How long the run of such bytes is that a list begins with. -/
def runL (p : Int → Bool) : List UInt8 → Nat
  | [] => 0
  | c :: l => if p c.toNat then runL p l + 1 else 0
theorem runL_le (p : Int → Bool) (l : List UInt8) : runL p l ≤ l.length := by
  induction l with
  | nil => simp [runL]
  | cons c l ih => simp only [runL]; split <;> simp <;> omega
theorem runL_drop (p : Int → Bool) (s : ByteArray) (k : Nat) (h : k < s.size) : runL p (s.data.toList.drop k) = if p (s[k].toNat : Int) then runL p (s.data.toList.drop (k + 1)) + 1 else 0 := by
  have : s.data.toList.drop k = s[k] :: s.data.toList.drop (k + 1) := by
    rw [List.drop_eq_getElem_cons (by simpa using h)]; rfl
  rw [this]; rfl
set_option maxHeartbeats 1000000 in
theorem runEnd_name (s : ByteArray) (i : Nat) (w : World) (hs : s.size ≤ maxLen) (hi : i ≤ s.size) :
    Calls Tryz.prog 88 #[.string s, .int .i64 i, .func (.func 89) #[] #[]] w fun e w' => e = .returned (.int .i64 ((i + runL namB (s.data.toList.drop i) : Nat) : Int)) ∧ w' = w := by
  unfold maxLen at hs
  go_enter Tryz.func88, Tryz.ntmps88
  go_wp2_with fail
  go_loop [1] (fun v => ∃ k : Nat, i ≤ k ∧ k ≤ s.size ∧ v = .int .i64 k ∧ Hid (i + runL namB (s.data.toList.drop i) = k + runL namB (s.data.toList.drop k))) (fun v => s.size - (intOf v).toNat)
  case atStart => exact ⟨i, Nat.le_refl _, hi, rfl, rfl⟩
  case round =>
    obtain ⟨k, h1, h2, rfl, H⟩ := hrel
    by_cases hlt : k < s.size
    · have HD : Hid _ := runL_drop namB s k hlt
      cases c : namB (s[k].toNat : Int)
      · go_wp2_with (go_at_call 89; refine (isNameByte_of _ _).mono ?_; rintro e w1 ⟨rfl, rfl⟩)
        go_ret
        refine ⟨ret_int ?_, rfl⟩
        have a := H.out
        have b := HD.out
        rw [c] at b
        simp only [Bool.false_eq_true, if_false] at b
        omega
      · go_wp2_with (go_at_call 89; refine (isNameByte_of _ _).mono ?_; rintro e w1 ⟨rfl, rfl⟩)
        go_round
        case rel =>
          refine ⟨k + 1, by omega, by omega, by go_num, ?_⟩
          have a := H.out
          have b := HD.out
          rw [c] at b
          simp only [if_true] at b
          show _ = _
          omega
        case measure => simp [intOf]; omega
    · go_wp2
      go_ret
      refine ⟨ret_int ?_, rfl⟩
      have a := H.out
      rw [show s.data.toList.drop k = [] from List.drop_eq_nil_of_le (by simp; omega)] at a
      simp only [runL] at a
      omega
set_option maxHeartbeats 1000000 in
theorem runEnd_digit (s : ByteArray) (i : Nat) (w : World) (hs : s.size ≤ maxLen) (hi : i ≤ s.size) :
    Calls Tryz.prog 88 #[.string s, .int .i64 i, .func (.func 117) #[] #[]] w fun e w' => e = .returned (.int .i64 ((i + runL digB (s.data.toList.drop i) : Nat) : Int)) ∧ w' = w := by
  unfold maxLen at hs
  go_enter Tryz.func88, Tryz.ntmps88
  go_wp2_with fail
  go_loop [1] (fun v => ∃ k : Nat, i ≤ k ∧ k ≤ s.size ∧ v = .int .i64 k ∧ Hid (i + runL digB (s.data.toList.drop i) = k + runL digB (s.data.toList.drop k))) (fun v => s.size - (intOf v).toNat)
  case atStart => exact ⟨i, Nat.le_refl _, hi, rfl, rfl⟩
  case round =>
    obtain ⟨k, h1, h2, rfl, H⟩ := hrel
    by_cases hlt : k < s.size
    · have HD : Hid _ := runL_drop digB s k hlt
      cases c : digB (s[k].toNat : Int)
      · go_wp2_with (go_at_call 117; refine (isDigit_of _ _).mono ?_; rintro e w1 ⟨rfl, rfl⟩)
        go_ret
        refine ⟨ret_int ?_, rfl⟩
        have a := H.out
        have b := HD.out
        rw [c] at b
        simp only [Bool.false_eq_true, if_false] at b
        omega
      · go_wp2_with (go_at_call 117; refine (isDigit_of _ _).mono ?_; rintro e w1 ⟨rfl, rfl⟩)
        go_round
        case rel =>
          refine ⟨k + 1, by omega, by omega, by go_num, ?_⟩
          have a := H.out
          have b := HD.out
          rw [c] at b
          simp only [if_true] at b
          show _ = _
          omega
        case measure => simp [intOf]; omega
    · go_wp2
      go_ret
      refine ⟨ret_int ?_, rfl⟩
      have a := H.out
      rw [show s.data.toList.drop k = [] from List.drop_eq_nil_of_le (by simp; omega)] at a
      simp only [runL] at a
      omega
end Go.Proofs.YtdcjngakmkgbmaaGreat
namespace Go.Proofs.YtdcjngakmkgbmaaGreat
set_option linter.unusedVariables false
open Go.RowKit
/-- A byte in capitals. -/
def capI (c : Int) : Int := if 97 ≤ c ∧ c ≤ 122 then c - 32 else c
def capU (b : UInt8) : UInt8 := UInt8.ofNat (capI b.toNat).toNat
theorem capU_toNat (b : UInt8) : ((capU b).toNat : Int) = capI b.toNat := by
  have h : b.toNat < 256 := b.toNat_lt
  unfold capU capI
  split
  · simp; omega
  · simp
/-- A text in capitals. -/
def capS (s : ByteArray) : ByteArray := ⟨(s.data.toList.map capU).toArray⟩
theorem capital_of (c : Int) (h0 : 0 ≤ c) (h1 : c ≤ 255) (w : World) : Calls Tryz.prog 142 #[.int .u8 c] w fun e w' => e = .returned (.int .u8 (capI c)) ∧ w' = w := by
  go_enter Tryz.func142, Tryz.ntmps142
  go_wp2
  all_goals
    go_ret
    refine ⟨ret_int ?_, rfl⟩
    unfold capI
    go_light
    first
    | (rw [if_pos (by omega)]; omega)
    | (rw [if_neg (by omega)])
    | (split <;> omega)
/-- What the bytes are while a loop turns them: the first k are capitals. -/
def part (s : ByteArray) (k j : Nat) : Int := if j < k then capI ((s.data.toList.getD j 0).toNat : Int) else ((s.data.toList.getD j 0).toNat : Int)
theorem part_bounds (s : ByteArray) (k j : Nat) : 0 ≤ part s k j ∧ part s k j ≤ 255 := by
  have h : (s.data.toList.getD j 0).toNat < 256 := UInt8.toNat_lt _
  unfold part capI
  split
  · split <;> omega
  · omega
theorem part_all (s : ByteArray) (j : Nat) (hj : j < (s.data.toList.map capU).length) : part s s.size j = (((s.data.toList.map capU)[j]).toNat : Int) := by
  have hj' : j < s.data.toList.length := by simpa using hj
  have hs : j < s.size := by simpa using hj'
  rw [List.getElem_map, capU_toNat]
  unfold part
  rw [if_pos hs, List.getD_eq_getElem?_getD, List.getElem?_eq_getElem hj']
  rfl
theorem part_zero (s : ByteArray) (j : Nat) (hj : j < s.data.size) : part s 0 j = (s.data[j].toNat : Int) := by
  unfold part
  rw [if_neg (by omega), List.getD_eq_getElem?_getD]
  rw [show s.data.toList[j]? = some s.data[j] by simp]
  rfl
/-- What holds of the memory while a loop turns the bytes at block b: the first k are capitals. -/
def Turned (s : ByteArray) (b k : Nat) (w wr : World) : Prop :=
  Below b w wr ∧ b < wr.heap.size ∧ (∀ j, j < s.size → wr.cell? ⟨b, j, none⟩ = some (.int .u8 (part s k j))) ∧ (∀ j, j < s.size → wr.frozen? ⟨b, j, none⟩ = false)
theorem turned_start (s : ByteArray) (w : World) (e : TypeId) (cap : Nat) : Turned s w.heap.size 0 w (w.alloc (.cells (bytesRow s cap) e ((bytesRow s cap).size, (bytesRow s cap).size + 1))) := by
  refine ⟨(Below.refl _ _).alloc (Nat.le_refl _) _, by simp, ?_, ?_⟩
  · intro j hj
    rw [World.cell?_alloc_mark, bytesRow_at s cap j hj, part_zero s j hj]
  · intro j hj
    rw [World.frozen?_alloc_mark]
    have : j < (bytesRow s cap).size := by
      unfold bytesRow
      simp
      exact Nat.lt_of_lt_of_le hj (Nat.le_add_right _ _)
    simp
    omega
theorem Turned.drew {s : ByteArray} {b k : Nat} {w wr : World} (h : Turned s b k w wr) : Turned s b k w wr.drew := ⟨h.1.drew, h.2.1, h.2.2.1, h.2.2.2⟩
theorem Turned.set {s : ByteArray} {b k : Nat} {w wr : World} (h : Turned s b k w wr) (hk : k < s.size) : Turned s b (k + 1) w (wr.setCell ⟨b, k, none⟩ (.int .u8 (capI (part s k k)))) := by
  refine ⟨h.1.setCell (Nat.le_refl _) _, by simpa using h.2.1, ?_, ?_⟩
  · intro j hj
    by_cases e : j = k
    · subst e
      rw [World.cell?_setCell_same _ _ _ (h.2.2.1 j hj)]
      unfold part
      rw [if_neg (by omega), if_pos (by omega)]
    · rw [World.cell?_setCell_other _ _ _ _ (by intro q; injection q; omega), h.2.2.1 j hj]
      unfold part
      by_cases f : j < k
      · rw [if_pos f, if_pos (by omega)]
      · rw [if_neg f, if_neg (by omega)]
  · intro j hj
    rw [World.frozen?_setCell]
    exact h.2.2.2 j hj
theorem Turned.keep {s : ByteArray} {b k : Nat} {w wr : World} (h : Turned s b k w wr) (hk : k < s.size) (hc : capI (part s k k) = part s k k) : Turned s b (k + 1) w wr := by
  refine ⟨h.1, h.2.1, ?_, h.2.2.2⟩
  intro j hj
  rw [h.2.2.1 j hj]
  by_cases e : j = k
  · subst e
    have : part s (j + 1) j = capI (part s j j) := by
      unfold part
      rw [if_pos (by omega : j < j + 1), if_neg (by omega : ¬ j < j)]
    rw [this, hc]
  · unfold part
    by_cases f : j < k
    · rw [if_pos f, if_pos (by omega)]
    · rw [if_neg f, if_neg (by omega)]
theorem Turned.back {s : ByteArray} {b : Nat} {w wr : World} (h : Turned s b s.size w wr) (src dst e : TypeId) (cap : Nat) (hs : Tryz.prog.underlying src = some (.slice e)) (he : Tryz.prog.underlying e = some (.int .u8)) (hd : Tryz.prog.underlying dst = some .string) :
    (convert src dst (.slice (some ⟨b, 0, none⟩) s.size cap)).run Tryz.prog wr = .ok (.string (capS s)) wr := by
  have := run_convert_bytes_back (P := Tryz.prog) wr src dst e ⟨b, 0, none⟩ cap (s.data.toList.map capU) hs he hd (fun j hj => by
    have hj' : j < s.size := by simpa using hj
    rw [← part_all s j hj, ← h.2.2.1 j hj']
    by_cases e : j = 0
    · subst e; rfl
    · simp [Addr.add, e])
  rw [show (s.data.toList.map capU).length = s.size by simp] at this
  exact this
set_option maxRecDepth 20000 in
set_option maxHeartbeats 2000000 in
theorem capitals_of (s : ByteArray) (w : World) (hs : s.size ≤ maxLen) : Calls Tryz.prog 134 #[.string s] w fun e w' => e = .returned (.string (capS s)) ∧ Below w.heap.size w w' := by
  unfold maxLen at hs
  have hconv := run_bytes_of_string (P := Tryz.prog) w 9 27 5 s rfl rfl rfl
  go_enter Tryz.func134, Tryz.ntmps134
  go_wp2_with fail
  go_loopw [9] (fun i wr => ∃ k : Nat, k ≤ s.size ∧ i = .int .i64 k ∧ Turned s w.heap.size k w wr) (fun i _ => s.size - (intOf i).toNat)
  case atStart => exact ⟨0, Nat.zero_le _, rfl, (turned_start s w 5 _).drew⟩
  case round =>
    obtain ⟨k, hk, rfl, H⟩ := hrel
    clear hconv
    by_cases hlt : k < s.size
    · have hc := H.2.2.1 k hlt
      have hf := H.2.2.2 k hlt
      have hb := part_bounds s k k
      go_wp2_with (go_at_call 142; refine (capital_of _ hb.1 hb.2 _).mono ?_; rintro e w1 ⟨rfl, rfl⟩)
      go_roundw
      case rel => exact ⟨k + 1, by omega, by go_num, H.set hlt⟩
      case measure => simp [intOf]; omega
    · have e : k = s.size := by omega
      subst e
      have hb := H.back 27 9 5 (grownCap w s.size 0 5) rfl rfl rfl
      have hd := H.drew.back 27 9 5 (grownCap w s.size 0 5) rfl rfl rfl
      go_wp2
      go_ret
      first
      | exact ⟨rfl, H.1⟩
      | exact ⟨rfl, H.1.drew⟩
set_option maxRecDepth 20000 in
set_option maxHeartbeats 2000000 in
theorem Upper_of (s : ByteArray) (w : World) (hs : s.size ≤ maxLen) : Calls Tryz.prog 113 #[.string s] w fun e w' => e = .returned (.string (capS s)) ∧ Below w.heap.size w w' := by
  unfold maxLen at hs
  have hconv := run_bytes_of_string (P := Tryz.prog) w 9 27 5 s rfl rfl rfl
  go_enter Tryz.func113, Tryz.ntmps113
  go_wp2_with fail
  go_loopw [9] (fun i wr => ∃ k : Nat, k ≤ s.size ∧ i = .int .i64 k ∧ Turned s w.heap.size k w wr) (fun i _ => s.size - (intOf i).toNat)
  case atStart => exact ⟨0, Nat.zero_le _, rfl, (turned_start s w 5 _).drew⟩
  case round =>
    obtain ⟨k, hk, rfl, H⟩ := hrel
    clear hconv
    by_cases hlt : k < s.size
    · have hc := H.2.2.1 k hlt
      have hf := H.2.2.2 k hlt
      have hb := part_bounds s k k
      have H' : Hid (Turned s w.heap.size (k + 1) w (wr.setCell ⟨w.heap.size, k, none⟩ (.int .u8 (capI (part s k k))))) := H.set hlt
      by_cases h1 : 97 ≤ part s k k
      · by_cases h2 : part s k k ≤ 122
        · go_wp2
          go_roundw
          case rel =>
            refine ⟨k + 1, by omega, by go_num, ?_⟩
            have := H'.out
            rw [show capI (part s k k) = part s k k - 32 by unfold capI; rw [if_pos ⟨h1, h2⟩]] at this
            first
            | exact this
          case measure => simp [intOf]; omega
        · go_wp2
          go_roundw
          case rel =>
            exact ⟨k + 1, by omega, by go_num, H.keep hlt (by unfold capI; rw [if_neg (by omega)])⟩
          case measure => simp [intOf]; omega
      · go_wp2
        go_roundw
        case rel =>
            exact ⟨k + 1, by omega, by go_num, H.keep hlt (by unfold capI; rw [if_neg (by omega)])⟩
        case measure => simp [intOf]; omega
    · have e : k = s.size := by omega
      subst e
      have hb := H.back 27 9 5 (grownCap w s.size 0 5) rfl rfl rfl
      have hd := H.drew.back 27 9 5 (grownCap w s.size 0 5) rfl rfl rfl
      go_wp2
      go_ret
      first
      | exact ⟨rfl, H.1⟩
      | exact ⟨rfl, H.1.drew⟩
end Go.Proofs.YtdcjngakmkgbmaaGreat
namespace Go.Proofs.YtdcjngakmkgbmaaGreat
set_option linter.unusedVariables false
open Go.RowKit
/-- A text's byte; behind its end 0. -/
def byt (s : ByteArray) (i : Nat) : Int := ((s.data.toList.getD i 0).toNat : Int)
theorem byt_in (s : ByteArray) (i : Nat) (h : i < s.size) : byt s i = (s[i].toNat : Int) := by
  unfold byt
  rw [List.getD_eq_getElem?_getD, show s.data.toList[i]? = some s[i] by rw [Array.getElem?_toList, Array.getElem?_eq_getElem h]; rfl]
  rfl
theorem byt_out (s : ByteArray) (i : Nat) (h : s.size ≤ i) : byt s i = 0 := by
  unfold byt
  rw [List.getD_eq_getElem?_getD, List.getElem?_eq_none (by simpa using h)]
  rfl
theorem byt_bounds (s : ByteArray) (i : Nat) : 0 ≤ byt s i ∧ byt s i ≤ 255 := by
  have h : (s.data.toList.getD i 0).toNat < 256 := UInt8.toNat_lt _
  unfold byt
  omega
theorem isLetter_of (c : Int) (w : World) : Calls Tryz.prog 87 #[.int .u8 c] w fun e w' => e = .returned (.bool (letB c)) ∧ w' = w := by
  generalize hr : letB c = r
  have R : Hid (letB c = r) := hr
  clear hr
  rcases bytes6 c with h | ⟨h, h'⟩ | ⟨h, h'⟩ | ⟨h, h'⟩ | ⟨h, h'⟩ | rfl | rfl | ⟨h, h'⟩ | h
  all_goals
    go_enter Tryz.func87, Tryz.ntmps87
    go_wp2
    go_ret
    refine ⟨ret_bool ?_, rfl⟩
    rw [← R.out]
    go_light
    unfold letB
    rw [Bool.eq_iff_iff]
    simp only [Bool.or_eq_true, decide_eq_true_eq, Bool.false_eq_true, true_iff, false_iff]
    omega
theorem digitR_of (c : Int) (w : World) : Calls Tryz.prog 110 #[.int .u8 c] w fun e w' => e = .returned (.bool (digB c)) ∧ w' = w := by
  go_enter Tryz.func110, Tryz.ntmps110
  go_wp2
  all_goals
    go_ret
    refine ⟨ret_bool ?_, rfl⟩
    unfold digB
    rw [Bool.eq_iff_iff]
    simp
    omega
set_option maxHeartbeats 1000000 in
theorem innerR_of (c : Int) (w : World) : Calls Tryz.prog 78 #[.int .u8 c] w fun e w' => e = .returned (.bool (namB c)) ∧ w' = w := by
  generalize hl : letB c = l
  generalize hd : digB c = d
  have HL : Hid (letB c = l) := hl
  have HD : Hid (digB c = d) := hd
  clear hl hd
  have N : Hid (namB c = (l || d || decide (c = 95))) := by show _ = _; unfold namB; rw [HL.out, HD.out]
  go_enter Tryz.func78, Tryz.ntmps78
  cases l
  · cases d
    · go_wp2_with (first
        | (go_at_call 77; refine (letterR_of _ _).mono ?_; rintro e w1 ⟨rfl, rfl⟩; rw [HL.out])
        | (go_at_call 110; refine (digitR_of _ _).mono ?_; rintro e w1 ⟨rfl, rfl⟩; rw [HD.out]))
      go_ret
      refine ⟨ret_bool ?_, rfl⟩
      rw [N.out]
      by_cases h : c = 95 <;> simp [h]
    · go_wp2_with (first
        | (go_at_call 77; refine (letterR_of _ _).mono ?_; rintro e w1 ⟨rfl, rfl⟩; rw [HL.out])
        | (go_at_call 110; refine (digitR_of _ _).mono ?_; rintro e w1 ⟨rfl, rfl⟩; rw [HD.out]))
      go_ret
      refine ⟨ret_bool ?_, rfl⟩
      rw [N.out]
      rfl
  · go_wp2_with (first
        | (go_at_call 77; refine (letterR_of _ _).mono ?_; rintro e w1 ⟨rfl, rfl⟩; rw [HL.out])
        | (go_at_call 110; refine (digitR_of _ _).mono ?_; rintro e w1 ⟨rfl, rfl⟩; rw [HD.out]))
    go_ret
    refine ⟨ret_bool ?_, rfl⟩
    rw [N.out]
    rfl
/-- Is a text a name? -/
def nameB (s : ByteArray) : Bool := decide (1 ≤ s.size ∧ s.size ≤ 24) && letB (byt s 0) && decide (runL namB s.data.toList = s.size)
set_option maxHeartbeats 2000000 in
theorem IsName_of (s : ByteArray) (w : World) (hs : s.size ≤ maxLen) : Calls Tryz.prog 49 #[.string s] w fun e w' => e = .returned (.bool (nameB s)) ∧ w' = w := by
  generalize hn : nameB s = r
  have N : Hid (nameB s = r) := hn
  clear hn
  go_enter Tryz.func49, Tryz.ntmps49
  by_cases h1 : s.size ≤ 24
  · by_cases h0 : 0 < s.size
    · have hb : Hid (byt s 0 = s[0].toNat) := byt_in s 0 h0
      cases c : letB (s[0].toNat : Int)
      · have C : Hid (letB (s[0].toNat : Int) = false) := c
        clear c
        go_wp2_with (first
          | (go_at_call 87; refine (isLetter_of _ _).mono ?_; rintro e w1 ⟨rfl, rfl⟩; rw [C.out])
          | (go_at_call 88; refine (runEnd_name s 0 _ hs (Nat.zero_le _)).mono ?_; rintro e w1 ⟨rfl, rfl⟩))
        go_ret
        refine ⟨ret_bool ?_, rfl⟩
        rw [← N.out, nameB, hb.out, C.out]
        simp
      · have C : Hid (letB (s[0].toNat : Int) = true) := c
        clear c
        go_wp2_with (first
          | (go_at_call 87; refine (isLetter_of _ _).mono ?_; rintro e w1 ⟨rfl, rfl⟩; rw [C.out])
          | (go_at_call 88; refine (runEnd_name s 0 _ hs (Nat.zero_le _)).mono ?_; rintro e w1 ⟨rfl, rfl⟩))
        go_ret
        refine ⟨ret_bool ?_, rfl⟩
        rw [← N.out, nameB, hb.out, C.out]
        go_light
        rw [decide_eq_true (show 1 ≤ s.size ∧ s.size ≤ 24 from ⟨h0, h1⟩), Bool.eq_iff_iff]
        simp
        try omega
    · go_wp2
      go_ret
      refine ⟨ret_bool ?_, rfl⟩
      rw [← N.out, nameB]
      simp [show ¬ 1 ≤ s.size by omega]
  · go_wp2
    go_ret
    refine ⟨ret_bool ?_, rfl⟩
    rw [← N.out, nameB]
    simp [show ¬ s.size ≤ 24 by omega]
set_option maxHeartbeats 2000000 in
theorem IsNameR_of (s : ByteArray) (w : World) (hs : s.size ≤ maxLen) : Calls Tryz.prog 37 #[.string s] w fun e w' => e = .returned (.bool (nameB s)) ∧ w' = w := by
  generalize hn : nameB s = r
  have N : Hid (nameB s = r) := hn
  clear hn
  go_enter Tryz.func37, Tryz.ntmps37
  by_cases h0 : 0 < s.size
  · by_cases h1 : s.size ≤ 24
    · have hb : Hid (byt s 0 = s[0].toNat) := byt_in s 0 h0
      cases c : letB (s[0].toNat : Int)
      · have C : Hid (letB (s[0].toNat : Int) = false) := c
        clear c
        go_wp2_with (go_at_call 77; refine (letterR_of _ _).mono ?_; rintro e w1 ⟨rfl, rfl⟩; rw [C.out])
        go_ret
        refine ⟨ret_bool ?_, rfl⟩
        rw [← N.out, nameB, hb.out, C.out]
        simp
      · have C : Hid (letB (s[0].toNat : Int) = true) := c
        clear c
        go_wp2_with (first | (go_at_call 77; refine (letterR_of _ _).mono ?_; rintro e w1 ⟨rfl, rfl⟩; rw [C.out]) | fail)
        go_loop [3] (fun v => ∃ k : Nat, k ≤ s.size ∧ v = .int .i64 k ∧ Hid (runL namB s.data.toList = k + runL namB (s.data.toList.drop k))) (fun v => s.size - (intOf v).toNat)
        case atStart => exact ⟨0, Nat.zero_le _, rfl, by show _ = _; simp⟩
        case round =>
          obtain ⟨k, h2, rfl, H⟩ := hrel
          by_cases hlt : k < s.size
          · have HD : Hid _ := runL_drop namB s k hlt
            cases c : namB (s[k].toNat : Int)
            · have CN : Hid (namB (s[k].toNat : Int) = false) := c
              clear c
              go_wp2_with (go_at_call 78; refine (innerR_of _ _).mono ?_; rintro e w1 ⟨rfl, rfl⟩; rw [CN.out])
              go_ret
              refine ⟨ret_bool ?_, rfl⟩
              have a := H.out
              have b := HD.out
              rw [CN.out] at b
              simp only [Bool.false_eq_true, if_false] at b
              rw [← N.out, nameB, decide_eq_false (show ¬ runL namB s.data.toList = s.size by omega)]
              simp
            · have CN : Hid (namB (s[k].toNat : Int) = true) := c
              clear c
              go_wp2_with (go_at_call 78; refine (innerR_of _ _).mono ?_; rintro e w1 ⟨rfl, rfl⟩; rw [CN.out])
              go_round
              case rel =>
                refine ⟨k + 1, by omega, by go_num, ?_⟩
                have a := H.out
                have b := HD.out
                rw [CN.out] at b
                simp only [if_true] at b
                show _ = _
                omega
              case measure => simp [intOf]; omega
          · go_wp2
            go_ret
            refine ⟨ret_bool ?_, rfl⟩
            have a := H.out
            rw [show s.data.toList.drop k = [] from List.drop_eq_nil_of_le (by simp; omega)] at a
            simp only [runL] at a
            rw [← N.out, nameB, hb.out, C.out, decide_eq_true (show 1 ≤ s.size ∧ s.size ≤ 24 from ⟨h0, h1⟩), decide_eq_true (show runL namB s.data.toList = s.size by omega)]
            rfl
    · go_wp2
      go_ret
      refine ⟨ret_bool ?_, rfl⟩
      rw [← N.out, nameB]
      simp [show ¬ s.size ≤ 24 by omega]
  · go_wp2
    go_ret
    refine ⟨ret_bool ?_, rfl⟩
    rw [← N.out, nameB]
    simp [show ¬ 1 ≤ s.size by omega]
end Go.Proofs.YtdcjngakmkgbmaaGreat
namespace Go.Proofs.YtdcjngakmkgbmaaGreat
set_option linter.unusedVariables false
open Go.RowKit
theorem byteAt_of (s : ByteArray) (i : Nat) (w : World) : Calls Tryz.prog 140 #[.string s, .int .i64 i] w fun e w' => e = .returned (.int .u8 (byt s i)) ∧ w' = w := by
  go_enter Tryz.func140, Tryz.ntmps140
  by_cases h : i < s.size
  · have hb : Hid (byt s i = s[i].toNat) := byt_in s i h
    go_wp2
    go_ret
    exact ⟨ret_int hb.out.symm, rfl⟩
  · have hb : Hid (byt s i = 0) := byt_out s i (by omega)
    go_wp2
    go_ret
    exact ⟨ret_int hb.out.symm, rfl⟩
/-- How many bits stand at a letter in capitals; 0: it is no such letter. -/
def bitN (c : Int) : Int := if c = 88 then 1 else if c = 66 then 8 else if c = 87 then 16 else if c = 68 then 32 else if c = 76 then 64 else 0
def areaB (c : Int) : Bool := decide (c = 73 ∨ c = 81 ∨ c = 77)
theorem bit6 (c : Int) : c = 88 ∨ c = 66 ∨ c = 87 ∨ c = 68 ∨ c = 76 ∨ (c ≠ 88 ∧ c ≠ 66 ∧ c ≠ 87 ∧ c ≠ 68 ∧ c ≠ 76) := by omega
theorem bitN_none (c : Int) (h : c ≠ 88 ∧ c ≠ 66 ∧ c ≠ 87 ∧ c ≠ 68 ∧ c ≠ 76) : bitN c = 0 := by
  unfold bitN
  rw [if_neg h.1, if_neg h.2.1, if_neg h.2.2.1, if_neg h.2.2.2.1, if_neg h.2.2.2.2]
set_option maxHeartbeats 1000000 in
theorem addressBits_of (c : Int) (h0 : 0 ≤ c) (h1 : c ≤ 255) (w : World) : Calls Tryz.prog 135 #[.int .u8 c] w fun e w' => e = .returned (.int .i64 (bitN (capI c))) ∧ w' = w := by
  generalize hd : capI c = d
  have D : Hid (capI c = d) := hd
  clear hd
  rcases bit6 d with rfl | rfl | rfl | rfl | rfl | h
  case inr.inr.inr.inr.inr =>
    have e1 : (d == 88) = false := by simp; omega
    have e2 : (d == 66) = false := by simp; omega
    have e3 : (d == 87) = false := by simp; omega
    have e4 : (d == 68) = false := by simp; omega
    have e5 : (d == 76) = false := by simp; omega
    go_enter Tryz.func135, Tryz.ntmps135
    go_wp2_with (go_at_call 142; refine (capital_of _ h0 h1 _).mono ?_; rintro e w1 ⟨rfl, rfl⟩; rw [D.out])
    go_ret
    exact ⟨ret_int (bitN_none d h).symm, rfl⟩
  all_goals
    go_enter Tryz.func135, Tryz.ntmps135
    go_wp2_with (go_at_call 142; refine (capital_of _ h0 h1 _).mono ?_; rintro e w1 ⟨rfl, rfl⟩; rw [D.out])
    go_ret
    exact ⟨ret_int rfl, rfl⟩
set_option maxHeartbeats 1000000 in
theorem isArea_of (c : Int) (h0 : 0 ≤ c) (h1 : c ≤ 255) (w : World) : Calls Tryz.prog 141 #[.int .u8 c] w fun e w' => e = .returned (.bool (areaB (capI c))) ∧ w' = w := by
  generalize hd : capI c = d
  have D : Hid (capI c = d) := hd
  clear hd
  by_cases e1 : d = 73
  · subst e1
    go_enter Tryz.func141, Tryz.ntmps141
    go_wp2_with (go_at_call 142; refine (capital_of _ h0 h1 _).mono ?_; rintro e w1 ⟨rfl, rfl⟩; rw [D.out])
    go_ret
    exact ⟨ret_bool rfl, rfl⟩
  · by_cases e2 : d = 81
    · subst e2
      go_enter Tryz.func141, Tryz.ntmps141
      go_wp2_with (go_at_call 142; refine (capital_of _ h0 h1 _).mono ?_; rintro e w1 ⟨rfl, rfl⟩; rw [D.out])
      go_ret
      exact ⟨ret_bool rfl, rfl⟩
    · have f1 : (d == 73) = false := by simp; omega
      have f2 : (d == 81) = false := by simp; omega
      go_enter Tryz.func141, Tryz.ntmps141
      go_wp2_with (go_at_call 142; refine (capital_of _ h0 h1 _).mono ?_; rintro e w1 ⟨rfl, rfl⟩; rw [D.out])
      go_ret
      refine ⟨ret_bool ?_, rfl⟩
      go_light
      unfold areaB
      rw [Bool.eq_iff_iff]
      simp [e1, e2]
/-- How long the number of an address is. -/
def digN (s : ByteArray) : Nat := runL digB (s.data.toList.drop 3)
/-- Does an address begin at the text's beginning, up to its number? -/
def headB (s : ByteArray) : Bool := decide (byt s 0 = 37) && areaB (capI (byt s 1)) && decide (bitN (capI (byt s 2)) ≠ 0) && decide (1 ≤ digN s ∧ digN s ≤ 4 ∧ ¬ (1 < digN s ∧ byt s 3 = 48))
/-- The place behind the address that a text begins with; -1: none does. -/
def adE (s : ByteArray) : Int :=
  if headB s then
    if 1 < bitN (capI (byt s 2)) then 3 + digN s
    else if byt s (3 + digN s) = 46 ∧ 48 ≤ byt s (4 + digN s) ∧ byt s (4 + digN s) ≤ 55 then 5 + digN s else -1
  else -1
theorem digN_le (s : ByteArray) (h : 3 ≤ s.size) : 3 + digN s ≤ s.size := by
  have := runL_le digB (s.data.toList.drop 3)
  unfold digN
  simp at this
  have e : s.data.size = s.size := rfl
  omega
theorem bit_size (s : ByteArray) (h : bitN (capI (byt s 2)) ≠ 0) : 3 ≤ s.size := by
  rcases Nat.lt_or_ge 2 s.size with q | q
  · omega
  · rw [byt_out s 2 q] at h
    exact absurd rfl h
theorem byteAt_z (s : ByteArray) (i : Int) (w : World) (h : 0 ≤ i) : Calls Tryz.prog 140 #[.string s, .int .i64 i] w fun e w' => e = .returned (.int .u8 (byt s i.toNat)) ∧ w' = w := by
  obtain ⟨n, rfl⟩ := Int.eq_ofNat_of_zero_le h
  exact byteAt_of s n w
theorem runEnd_digit_z (s : ByteArray) (i : Int) (w : World) (hs : s.size ≤ maxLen) (h0 : 0 ≤ i) (hi : i ≤ s.size) :
    Calls Tryz.prog 88 #[.string s, .int .i64 i, .func (.func 117) #[] #[]] w fun e w' => e = .returned (.int .i64 ((i.toNat + runL digB (s.data.toList.drop i.toNat) : Nat) : Int)) ∧ w' = w := by
  obtain ⟨n, rfl⟩ := Int.eq_ofNat_of_zero_le h0
  exact runEnd_digit s n w hs (by omega)
theorem adE_head (s : ByteArray) (h : headB s = false) : adE s = -1 := by
  unfold adE
  rw [h]
  rfl
/-- What is left behind the number. -/
def tailE (s : ByteArray) (d : Nat) : Int :=
  if 1 ≤ d ∧ d ≤ 4 ∧ ¬ (1 < d ∧ byt s 3 = 48) then
    if 1 < bitN (capI (byt s 2)) then 3 + d
    else if byt s (3 + d) = 46 ∧ 48 ≤ byt s (4 + d) ∧ byt s (4 + d) ≤ 55 then 5 + d else -1
  else -1
theorem adE_tail (s : ByteArray) (c0 : byt s 0 = 37) (c1 : areaB (capI (byt s 1)) = true) (c2 : ¬ bitN (capI (byt s 2)) = 0) : adE s = tailE s (digN s) := by
  unfold adE tailE headB
  rw [c0, c1, decide_eq_true c2]
  by_cases h : 1 ≤ digN s ∧ digN s ≤ 4 ∧ ¬ (1 < digN s ∧ byt s 3 = 48)
  · rw [if_pos h, decide_eq_true h]
    rfl
  · rw [if_neg h, decide_eq_false h]
    rfl
set_option maxHeartbeats 1000000 in
theorem addressEnd_in (s : ByteArray) (w : World) (hs : s.size ≤ maxLen) (c0 : byt s 0 = 37) (c1 : areaB (capI (byt s 1)) = true) (c2 : ¬ bitN (capI (byt s 2)) = 0) (r : Int) (R : Hid (adE s = r)) :
    Calls Tryz.prog 133 #[.string s, .int .i64 0] w fun e w' => e = .returned (.int .i64 r) ∧ w' = w := by
  have b1 := byt_bounds s 1
  have hz := bit_size s c2
  have hd := digN_le s hz
  have T : Hid (tailE s (digN s) = r) := by show _ = _; rw [← R.out, adE_tail s c0 c1 c2]
  clear R
  have hm : s.size ≤ 9223372036854775807 := hs
  have D : Hid (runL digB (s.data.toList.drop 3) = digN s) := rfl
  have B2 : Hid (byt s 2 = s[2].toNat) := byt_in s 2 (by omega)
  have b2 := byt_bounds s 2
  rw [B2.out] at c2 b2
  have C1 : Hid (areaB (capI (byt s 1)) = true) := c1
  clear c1
  generalize hg : digN s = d at *
  clear hg
  have f2 : (bitN (capI (s[2].toNat : Int)) == 0) = false := by simpa using c2
  go_enter Tryz.func133, Tryz.ntmps133
  go_wp2_with (first
    | (go_at_call 141; refine (isArea_of _ b1.1 b1.2 _).mono ?_; rintro e w1 ⟨rfl, rfl⟩; rw [C1.out])
    | (go_at_call 135; refine (addressBits_of _ b2.1 b2.2 _).mono ?_; rintro e w1 ⟨rfl, rfl⟩)
    | (go_at_call 88; refine (runEnd_digit_z s _ _ hs (by omega) (by omega)).mono ?_; rintro e w1 ⟨rfl, rfl⟩; simp only [Int.reduceToNat]; rw [D.out])
    | (go_at_call 140; refine (byteAt_z s _ _ (by omega)).mono ?_; rintro e w1 ⟨rfl, rfl⟩; simp only [Int.toNat_zero, Int.toNat_one, Int.reduceToNat]; try rw [B2.out]))
  all_goals
    go_ret
    refine ⟨ret_int ?_, rfl⟩
    rw [← T.out]
    go_light
    try simp only [show 3 + d + 1 = 4 + d by omega] at *
    simp only [beq_iff_eq, beq_eq_false_iff_ne] at *
    unfold tailE
    rw [B2.out]
    rcases Nat.lt_or_ge 3 s.size with q | q
    · have B4 : byt s 3 = s[3].toNat := byt_in s 3 q
      repeat' split
      all_goals omega
    · repeat' split
      all_goals omega
set_option maxHeartbeats 400000 in
theorem addressEnd_of (s : ByteArray) (w : World) (hs : s.size ≤ maxLen) : Calls Tryz.prog 133 #[.string s, .int .i64 0] w fun e w' => e = .returned (.int .i64 (adE s)) ∧ w' = w := by
  have b0 := byt_bounds s 0
  have b1 := byt_bounds s 1
  have b2 := byt_bounds s 2
  generalize hr : adE s = r
  have R : Hid (adE s = r) := hr
  clear hr
  by_cases c0 : byt s 0 = 37
  · cases c1 : areaB (capI (byt s 1))
    · have R' : Hid (-1 = r) := by
        show _ = _
        rw [← R.out, adE_head]
        unfold headB
        simp [c1]
      have C1 : Hid (areaB (capI (byt s 1)) = false) := c1
      clear c1 R
      go_enter Tryz.func133, Tryz.ntmps133
      go_wp2_with (first
        | (go_at_call 140; refine (byteAt_z s _ _ (by omega)).mono ?_; rintro e w1 ⟨rfl, rfl⟩; simp only [Int.toNat_zero, Int.toNat_one])
        | (go_at_call 141; refine (isArea_of _ b1.1 b1.2 _).mono ?_; rintro e w1 ⟨rfl, rfl⟩; rw [C1.out]))
      go_ret
      exact ⟨ret_int R'.out, rfl⟩
    · have C1 : Hid (areaB (capI (byt s 1)) = true) := c1
      by_cases c2 : bitN (capI (byt s 2)) = 0
      · have R' : Hid (-1 = r) := by
          show _ = _
          rw [← R.out, adE_head]
          unfold headB
          simp [c2]
        have C2 : Hid (bitN (capI (byt s 2)) = 0) := c2
        clear c1 c2 R
        go_enter Tryz.func133, Tryz.ntmps133
        go_wp2_with (first
          | (go_at_call 140; refine (byteAt_z s _ _ (by omega)).mono ?_; rintro e w1 ⟨rfl, rfl⟩; simp only [Int.toNat_zero, Int.toNat_one, Int.reduceToNat])
          | (go_at_call 141; refine (isArea_of _ b1.1 b1.2 _).mono ?_; rintro e w1 ⟨rfl, rfl⟩; rw [C1.out])
          | (go_at_call 135; refine (addressBits_of _ b2.1 b2.2 _).mono ?_; rintro e w1 ⟨rfl, rfl⟩; rw [C2.out]))
        go_ret
        exact ⟨ret_int R'.out, rfl⟩
      · exact addressEnd_in s w hs c0 c1 c2 r R
  · have R' : Hid (-1 = r) := by
      show _ = _
      rw [← R.out, adE_head]
      unfold headB
      simp [c0]
    have f0 : (byt s 0 == 37) = false := by simpa using c0
    clear R
    go_enter Tryz.func133, Tryz.ntmps133
    go_wp2_with (go_at_call 140; refine (byteAt_z s _ _ (by omega)).mono ?_; rintro e w1 ⟨rfl, rfl⟩; simp only [Int.toNat_zero])
    go_ret
    exact ⟨ret_int R'.out, rfl⟩
end Go.Proofs.YtdcjngakmkgbmaaGreat
namespace Go.Proofs.YtdcjngakmkgbmaaGreat
set_option linter.unusedVariables false
open Go.RowKit
/-- 1 of an input, 2 of an output, 0 of memory. -/
def dirN (c : Int) : Int := if c = 73 then 1 else if c = 81 then 2 else 0
/-- Is a text an address in capitals? -/
def addrB (s : ByteArray) : Bool := decide (adE s = s.size) && decide (capS s = s)
/-- What IsAddr answers. -/
def addrV (s : ByteArray) : Value := if addrB s then .tuple #[.int .i64 (bitN (byt s 2)), .int .i64 (dirN (byt s 1)), .bool true] else .tuple #[.int .i64 0, .int .i64 0, .bool false]
theorem addrV_no (s : ByteArray) (h : ¬ adE s = s.size ∨ ¬ capS s = s) : addrV s = .tuple #[.int .i64 0, .int .i64 0, .bool false] := by
  have : addrB s = false := by
    unfold addrB
    rcases h with h | h <;> simp [h]
  unfold addrV
  rw [this]
  rfl
theorem addrV_yes (s : ByteArray) (h : adE s = s.size) (h' : capS s = s) : addrV s = .tuple #[.int .i64 (bitN (byt s 2)), .int .i64 (dirN (byt s 1)), .bool true] := by
  have : addrB s = true := by
    unfold addrB
    simp [h, h']
  unfold addrV
  rw [this]
  rfl
theorem ret_val {a b : Value} (h : a = b) : Ending.returned a = .returned b := by rw [h]
theorem adE_ok (s : ByteArray) (h : adE s = s.size) : byt s 0 = 37 ∧ areaB (capI (byt s 1)) = true ∧ bitN (capI (byt s 2)) ≠ 0 ∧ 3 ≤ s.size := by
  cases g : headB s
  · rw [adE_head s g] at h
    omega
  · unfold headB at g
    simp only [Bool.and_eq_true, decide_eq_true_eq] at g
    exact ⟨g.1.1.1, g.1.1.2, g.1.2, bit_size s g.1.2⟩
theorem capU_of_capS (s : ByteArray) (h : capS s = s) (i : Nat) : capI (byt s i) = byt s i := by
  rcases Nat.lt_or_ge i s.size with q | q
  · have e : (s.data.toList.map capU) = s.data.toList := by
      have := congrArg (fun x : ByteArray => x.data.toList) h
      simpa [capS] using this
    have q' : i < s.data.toList.length := by simpa using q
    have f : (s.data.toList.map capU)[i]? = s.data.toList[i]? := by rw [e]
    rw [List.getElem?_map, List.getElem?_eq_getElem q'] at f
    simp only [Option.map_some, Option.some.injEq] at f
    have g := capU_toNat (s.data.toList[i])
    rw [f] at g
    unfold byt
    rw [List.getD_eq_getElem?_getD, List.getElem?_eq_getElem q']
    exact g.symm
  · rw [byt_out s i q]
    rfl
theorem text_ne {a b : ByteArray} (h : ¬ a = b) : (a.toList == b.toList) = false := by
  rw [beq_eq_false_iff_ne]
  intro q
  rw [ByteArray.toList_eq, ByteArray.toList_eq] at q
  exact h (by cases a; cases b; simp at q; rw [q])
/-- The byte of an address that tells its direction, as the program's and the document's switch have it. -/
theorem dir3 (c : Int) : c = 73 ∨ c = 81 ∨ (c ≠ 73 ∧ c ≠ 81) := by omega
theorem dirN_no (c : Int) (h : c ≠ 73 ∧ c ≠ 81) : dirN c = 0 := by
  unfold dirN
  rw [if_neg h.1, if_neg h.2]
set_option maxHeartbeats 1000000 in
theorem IsAddr_yes (s : ByteArray) (w : World) (hs : s.size ≤ maxLen) (E : Hid (adE s = s.size)) (C : Hid (capS s = s)) (hz : 3 ≤ s.size) : Calls Tryz.prog 121 #[.string s] w fun e w' => e = .returned (addrV s) ∧ Below w.heap.size w w' := by
  generalize hv : addrV s = v
  have V : Hid (v = .tuple #[.int .i64 (bitN (byt s 2)), .int .i64 (dirN (byt s 1)), .bool true]) := by
    show _ = _
    rw [← hv, addrV_yes s E.out C.out]
  clear hv
  have hm : s.size ≤ 9223372036854775807 := hs
  have b1 : Hid (byt s 1 = s[1].toNat) := byt_in s 1 (by omega)
  have b2 : Hid (byt s 2 = s[2].toNat) := byt_in s 2 (by omega)
  have bb := byt_bounds s 2
  rw [b2.out] at bb
  have C2 : Hid (capI (s[2].toNat : Int) = s[2].toNat) := by
    show _ = _
    rw [← b2.out]
    exact capU_of_capS s C.out 2
  rw [b1.out, b2.out] at V
  rcases dir3 (s[1].toNat : Int) with h | h | h
  all_goals
    first
    | have f1 : ((s[1].toNat : Int) == 73) = true := by simpa using h
    | have f1 : ((s[1].toNat : Int) == 73) = false := by simp; omega
    first
    | have f2 : ((s[1].toNat : Int) == 81) = true := by simpa using h
    | have f2 : ((s[1].toNat : Int) == 81) = false := by simp; omega
    have V2 : Hid (v = .tuple #[.int .i64 (bitN (s[2].toNat : Int)), .int .i64 (if (s[1].toNat : Int) = 73 then 1 else if (s[1].toNat : Int) = 81 then 2 else 0), .bool true]) := V
    have H : Hid _ := h
    clear V h
    go_enter Tryz.func121, Tryz.ntmps121
    go_wp2_with (first
      | (go_at_call 133; refine (addressEnd_of s _ hs).mono ?_; rintro e w1 ⟨rfl, rfl⟩; rw [E.out])
      | (go_at_call 134; refine (capitals_of s _ hs).mono ?_; rintro e w1 ⟨rfl, hB⟩; rw [C.out])
      | (go_at_call 135; refine (addressBits_of _ bb.1 bb.2 _).mono ?_; rintro e w1 ⟨rfl, rfl⟩; rw [C2.out]))
    go_returns
    refine ⟨ret_val ?_, by assumption⟩
    rw [V2.out]
    have h := H.out
    first
    | (rw [if_pos h]; rfl)
    | (rw [if_neg (by omega), if_pos h]; rfl)
    | (rw [if_neg h.1, if_neg h.2]; rfl)
set_option maxHeartbeats 1000000 in
theorem IsAddr_of (s : ByteArray) (w : World) (hs : s.size ≤ maxLen) : Calls Tryz.prog 121 #[.string s] w fun e w' => e = .returned (addrV s) ∧ Below w.heap.size w w' := by
  by_cases hE : adE s = s.size
  · by_cases hC : capS s = s
    · exact IsAddr_yes s w hs hE hC (adE_ok s hE).2.2.2
    · generalize hv : addrV s = v
      have V' : Hid (v = .tuple #[.int .i64 0, .int .i64 0, .bool false]) := by
        show _ = _
        rw [← hv, addrV_no s (Or.inr hC)]
      have E : Hid (adE s = s.size) := hE
      have f := text_ne hC
      clear hE hv hC
      go_enter Tryz.func121, Tryz.ntmps121
      go_wp2_with (first
        | (go_at_call 133; refine (addressEnd_of s _ hs).mono ?_; rintro e w1 ⟨rfl, rfl⟩; rw [E.out])
        | (go_at_call 134; refine (capitals_of s _ hs).mono ?_; rintro e w1 ⟨rfl, hB⟩))
      go_returns
      exact ⟨ret_val V'.out.symm, by assumption⟩
  · generalize hv : addrV s = v
    have V' : Hid (v = .tuple #[.int .i64 0, .int .i64 0, .bool false]) := by
      show _ = _
      rw [← hv, addrV_no s (Or.inl hE)]
    have f : (adE s == (s.size : Int)) = false := by simpa using hE
    clear hv
    go_enter Tryz.func121, Tryz.ntmps121
    go_wp2_with (go_at_call 133; refine (addressEnd_of s _ hs).mono ?_; rintro e w1 ⟨rfl, rfl⟩)
    go_returns
    exact ⟨ret_val V'.out.symm, Below.refl _ _⟩
end Go.Proofs.YtdcjngakmkgbmaaGreat
namespace Go.Proofs.YtdcjngakmkgbmaaGreat
set_option linter.unusedVariables false
open Go.RowKit
theorem wf_i64 {n : Int} (h : wfI .i64 n) : -9223372036854775808 ≤ n ∧ n < 9223372036854775808 := by
  have := h
  unfold wfI Lit.wf at this
  simp only [Bool.and_eq_true, decide_eq_true_eq] at this
  have a : (IntKind.i64).min = -9223372036854775808 := by decide
  have b : (IntKind.i64).max = 9223372036854775807 := by decide
  rw [a, b] at this
  omega
theorem wf_u8 {n : Int} (h : wfI .u8 n) : 0 ≤ n ∧ n < 256 := by
  have := h
  unfold wfI Lit.wf at this
  simp only [Bool.and_eq_true, decide_eq_true_eq] at this
  have a : (IntKind.u8).min = 0 := by decide
  have b : (IntKind.u8).max = 255 := by decide
  rw [a, b] at this
  omega
theorem wf_u64 {n : Int} (h : wfI .u64 n) : 0 ≤ n ∧ n < 18446744073709551616 := by
  have := h
  unfold wfI Lit.wf at this
  simp only [Bool.and_eq_true, decide_eq_true_eq] at this
  have a : (IntKind.u64).min = 0 := by decide
  have b : (IntKind.u64).max = 18446744073709551615 := by decide
  rw [a, b] at this
  omega
theorem sh_max {s : ByteArray} (h : shT s) : s.size ≤ maxLen := Nat.le_trans h (by decide)
/-- Does a number lie between two? -/
def inB (a b x : Int) : Bool := decide (a ≤ x) && decide (x ≤ b)
/-- How many bits of an address a kind takes. -/
def wdK (k : Int) : Int := if k = 1 then 1 else if k = 2 ∨ k = 6 ∨ k = 10 then 8 else if k = 3 ∨ k = 7 ∨ k = 11 then 16 else if k = 4 ∨ k = 8 ∨ k = 12 then 32 else if k = 5 ∨ k = 9 ∨ k = 13 then 64 else 0
/-- Is a text empty? -/
def emB (s : ByteArray) : Bool := s.toList.isEmpty
def bdB (c : CeR) : Bool := (if c.sb = true then inB 2 9 c.kd && decide (c.lo ≤ c.hi) else decide (c.lo = 0) && decide (c.hi = 0)) && (if c.kd = 19 then inB 0 254 c.mx else decide (c.mx = 0))
def nwB (k b : Int) (s : ByteArray) : Bool := decide (k = 20) && decide (b = 0) && emB s
def bgB (c : CeR) : Bool := if c.kd = 20 then nwB c.ik c.ib c.is else decide (fitsF c.ik c.ib c.is c.kd c.sb c.lo c.hi c.mx = 0)
/-- An address of a direction, of so many bits. -/
def adB (s : ByteArray) (d n : Int) : Bool := addrB s && decide (dirN (byt s 1) = d) && decide (bitN (byt s 2) = n)
def liB (c : CeR) : Bool := inB 0 2 c.dr && (if emB c.ad = true then decide (c.dr = 0) else adB c.ad c.dr (wdK c.kd) && !c.sb)
/-- May a cell be, others aside? -/
def ceB (c : CeR) : Bool := inB 1 20 c.kd && !(decide (c.kd = 20) && c.kp) && bdB c && bgB c && liB c
/-- May the cell number i be? -/
def ceAt (l : List CeR) (i : Nat) : Bool := match l[i]? with
  | some c => ceB c && (emB c.ad || (l.take i).all (fun x => decide (¬ x.ad = c.ad)))
  | none => true
/-- The spans of an instruction's four fields. -/
def spO (cd rg sl n cs : Int) : (Int × Int) × (Int × Int) × (Int × Int) × (Int × Int) :=
  if cd = 1 ∨ cd = 12 ∨ cd = 14 ∨ cd = 15 then ((0, rg), (0, 0), (0, 0), (0, 0))
  else if cd = 2 then ((0, rg), (0, rg), (0, 0), (0, 0))
  else if cd = 3 ∨ cd = 4 ∨ cd = 7 then ((0, rg), (1, 3), (0, 4096), (0, 0))
  else if cd = 5 ∨ cd = 6 ∨ cd = 8 then ((0, rg), (1, 3), (0, 4096), (0, rg))
  else if cd = 9 then ((0, rg), (0, rg), (0, rg), (1, 14))
  else if cd = 10 then ((0, rg), (0, rg), (0, 0), (15, 16))
  else if cd = 11 then ((0, rg), (0, rg), (0, 0), (1, 19))
  else if cd = 13 then ((0, rg), (0, 0), (0, 16), (0, 255))
  else if cd = 16 then ((0, 0), (0, n), (0, 0), (0, 0))
  else if cd = 17 then ((0, rg), (0, n), (0, 0), (0, 0))
  else if cd = 18 then ((0, 0), (0, cs), (1, 3), (0, 4096))
  else if cd = 19 then ((0, 0), (1, 10), (1, 3), (0, 4096))
  else if cd = 20 then ((1, 10), (0, 0), (0, 0), (0, 0))
  else if cd = 22 ∨ cd = 23 then ((0, rg), (0, sl), (0, 0), (0, 0))
  else ((0, 0), (0, 0), (0, 0), (0, 0))
/-- May an instruction's bounds be? -/
def rcB (o : OpR) : Bool :=
  if o.cd = 5 ∨ o.cd = 6 ∨ o.cd = 8 then decide (o.lo ≤ o.hi) && decide (o.hi - o.lo < 256)
  else if o.cd = 14 then decide (o.lo ≤ o.hi)
  else if o.cd = 15 then decide (o.lo = 0) && inB 0 254 o.hi
  else decide (o.lo = 0) && decide (o.hi = 0)
/-- May an instruction's value be? -/
def hdB (o : OpR) : Bool := if o.cd = 1 then may3 o.vk o.vb o.vs || nwB o.vk o.vb o.vs else decide (o.vk = 0) && decide (o.vb = 0) && emB o.vs
def spB (s : (Int × Int) × (Int × Int) × (Int × Int) × (Int × Int)) (o : OpR) : Bool := inB s.1.1 s.1.2 o.a && inB s.2.1.1 s.2.1.2 o.b && inB s.2.2.1.1 s.2.2.1.2 o.c && inB s.2.2.2.1 s.2.2.2.2 o.d
/-- May an instruction of a code be, beside so many codes? -/
def opB (o : OpR) (rg sl n cs : Int) : Bool := inB 1 23 o.cd && spB (spO o.cd (rg - 1) (sl - 1) (n - 1) (cs - 1)) o && rcB o && hdB o
/-- So many cells from a base on. -/
def ftB (ba sz n : Int) : Bool := decide (0 ≤ ba) && decide (ba ≤ n - sz)
def stB (f : FlR) (n : Int) : Bool := inB 1 3 f.wh && inB 0 4096 f.ce && (decide (f.ba = -1) || (decide (f.wh = 1) && ftB f.ba f.ce n)) && inB 0 8 f.rg && inB 0 1024 f.sl
def enB (f : FlR) : Bool := match f.os.getLast? with
  | some o => decide (o.cd = 16 ∨ o.cd = 20 ∨ o.cd = 21)
  | none => false
def lpB (n : Int) (l : LpR) : Bool := decide (0 ≤ l.hd) && decide (l.hd ≤ l.en) && decide (l.en ≤ n) && inB 0 65536 l.tm
def lsB (f : FlR) : Bool := f.ls.all (lpB f.os.length)
def coB (f : FlR) (n : Int) : Bool := stB f n && enB f && lsB f
/-- The first of so many that is not so. -/
def fstN (f : Nat → Bool) (n : Nat) : Option Nat := (List.range n).find? (fun i => !f i)
theorem fstN_some {f : Nat → Bool} {n k : Nat} (hk : k < n) (h : ∀ j, j < k → f j = true) (hf : f k = false) : fstN f n = some k := by
  unfold fstN
  rw [List.find?_range_eq_some]
  refine ⟨by simp [hf], List.mem_range.2 hk, fun j hj => by simp [h j hj]⟩
theorem fstN_none {f : Nat → Bool} {n : Nat} (h : ∀ j, j < n → f j = true) : fstN f n = none := by
  unfold fstN
  rw [List.find?_range_eq_none]
  exact fun j hj => by simp [h j hj]
/-- How many instructions the first codes have. -/
def totN (l : List FlR) (i : Nat) : Nat := ((l.take (i + 1)).map (fun f => f.os.length)).sum
/-- May the instruction number p of a code be? -/
def opAt (f : FlR) (cs : Int) (p : Nat) : Bool := match f.os[p]? with
  | some o => opB o f.rg f.sl f.os.length cs
  | none => true
/-- What is wrong with the code number i: a place and an error; the error 0: nothing. -/
def flAt (m : ImR) (i : Nat) : Int × Int := match m.fs[i]? with
  | none => (0, 0)
  | some f => if nameB f.nm = false then (0, 6) else if coB f m.cs.length = false then (0, 202) else if 16384 < totN m.fs i ∨ 16384 < f.ls.length then (0, 4)
    else match fstN (opAt f m.fs.length) f.os.length with
    | some p => (p, 202)
    | none => (0, 0)
/-- May the runs of a task be? -/
def runB (m : ImR) (c b : Int) : Bool := decide (0 ≤ c) && decide (c < m.fs.length) && (match m.fs[c.toNat]? with
  | some f => decide (f.wh = 3) && ftB b f.ce m.cs.length
  | none => false)
def trB (m : ImR) (j : JbR) : Bool := (decide (j.sg = -1) || (decide (0 ≤ j.sg) && decide (j.sg < m.cs.length) && (match m.cs[j.sg.toNat]? with
  | some c => decide (c.kd = 1)
  | none => false))) && decide (0 ≤ j.iv) && inB 0 65535 j.pr && inB 0 1048576 j.bd
def rnB (m : ImR) (j : JbR) : Bool := decide (j.cs.length = j.bs.length) && decide (j.cs.length ≤ 32) && (List.range j.cs.length).all (fun i => runB m (j.cs.getD i 0) (j.bs.getD i 0))
/-- What is wrong with the task number i; 0: nothing. -/
def jbAt (m : ImR) (i : Nat) : Int := match m.js[i]? with
  | none => 0
  | some j => if ((m.js.take i).any (fun x => decide (x.nm = j.nm)) || !nameB j.nm) = true then 6 else if (trB m j && rnB m j) = true then 0 else 204
/-- What Check answers: two numbers and an error. -/
def chk (m : ImR) : Int × Int × Int :=
  if nameB m.nm = false then (0, 0, 6) else if 4096 < m.cs.length then (4096, 0, 4) else if 64 < m.fs.length then (64, 0, 4) else if 16 < m.js.length then (16, 0, 4)
  else match fstN (ceAt m.cs) m.cs.length with
  | some i => (i, 0, 203)
  | none => match fstN (fun i => decide ((flAt m i).2 = 0)) m.fs.length with
    | some i => (i, (flAt m i).1, (flAt m i).2)
    | none => match fstN (fun i => decide (jbAt m i = 0)) m.js.length with
      | some i => (i, 0, jbAt m i)
      | none => (0, 0, 0)
end Go.Proofs.YtdcjngakmkgbmaaGreat
