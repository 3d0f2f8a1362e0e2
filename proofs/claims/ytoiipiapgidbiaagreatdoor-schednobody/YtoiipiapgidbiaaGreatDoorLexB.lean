/- Capitals: what lex.capital, lex.capitals and the document's Upper answer; no statement of the seat is proved here. -/
import Derived.Test.YtoiipiapgidbiaaGreatDoorLexA
import Derived.Laws.IdiomStrings
namespace Go.Proofs.YtoiipiapgidbiaaGreatDoor
set_option linter.unusedVariables false
open Go.RowKit
theorem ret_str {a b : ByteArray} (h : a = b) : Ending.returned (.string a) = .returned (.string b) := by rw [h]
/-- A byte in capitals. -/
def capI (c : Int) : Int := if 97 ≤ c ∧ c ≤ 122 then c - 32 else c
def capU (b : UInt8) : UInt8 := UInt8.ofNat (capI b.toNat).toNat
theorem capU_toNat (b : UInt8) : ((capU b).toNat : Int) = capI b.toNat := by
  have h : b.toNat < 256 := b.toNat_lt
  unfold capU capI
  split
  · simp; omega
  · simp
/-- A text in capitals. -/
def capS (s : ByteArray) : ByteArray := ⟨(s.data.toList.map capU).toArray⟩
theorem capS_size (s : ByteArray) : (capS s).size = s.size := by
  show (s.data.toList.map capU).toArray.size = s.data.size
  simp
theorem capital_of (c : Int) (h0 : 0 ≤ c) (h1 : c ≤ 255) (w : World) : Calls Tryz.prog 211 #[.int .u8 c] w fun e w' => e = .returned (.int .u8 (capI c)) ∧ w' = w := by
  go_enter Tryz.func211, Tryz.ntmps211
  go_wp2
  all_goals
    go_ret
    refine ⟨ret_int ?_, rfl⟩
    unfold capI
    go_light
    first
    | (rw [if_pos (by omega)]; omega)
    | (rw [if_neg (by omega)])
    | (split <;> omega)
/-- What the bytes are while a loop turns them: the first k are capitals. -/
def part (s : ByteArray) (k j : Nat) : Int := if j < k then capI ((s.data.toList.getD j 0).toNat : Int) else ((s.data.toList.getD j 0).toNat : Int)
theorem part_bounds (s : ByteArray) (k j : Nat) : 0 ≤ part s k j ∧ part s k j ≤ 255 := by
  have h : (s.data.toList.getD j 0).toNat < 256 := UInt8.toNat_lt _
  unfold part capI
  split
  · split <;> omega
  · omega
theorem part_all (s : ByteArray) (j : Nat) (hj : j < (s.data.toList.map capU).length) : part s s.size j = (((s.data.toList.map capU)[j]).toNat : Int) := by
  have hj' : j < s.data.toList.length := by simpa using hj
  have hs : j < s.size := by simpa using hj'
  rw [List.getElem_map, capU_toNat]
  unfold part
  rw [if_pos hs, List.getD_eq_getElem?_getD, List.getElem?_eq_getElem hj']
  rfl
theorem part_zero (s : ByteArray) (j : Nat) (hj : j < s.data.size) : part s 0 j = (s.data[j].toNat : Int) := by
  unfold part
  rw [if_neg (by omega), List.getD_eq_getElem?_getD]
  rw [show s.data.toList[j]? = some s.data[j] by simp]
  rfl
/-- What holds of the memory while a loop turns the bytes at block b: the first k are capitals. -/
def Turned (s : ByteArray) (b k : Nat) (w wr : World) : Prop :=
  Below b w wr ∧ b < wr.heap.size ∧ (∀ j, j < s.size → wr.cell? ⟨b, j, none⟩ = some (.int .u8 (part s k j))) ∧ (∀ j, j < s.size → wr.frozen? ⟨b, j, none⟩ = false)
theorem turned_start (s : ByteArray) (w : World) (e : TypeId) (cap : Nat) : Turned s w.heap.size 0 w (w.alloc (.cells (bytesRow s cap) e ((bytesRow s cap).size, (bytesRow s cap).size + 1))) := by
  refine ⟨(Below.refl _ _).alloc (Nat.le_refl _) _, by simp, ?_, ?_⟩
  · intro j hj
    rw [World.cell?_alloc_mark, bytesRow_at s cap j hj, part_zero s j hj]
  · intro j hj
    rw [World.frozen?_alloc_mark]
    have : j < (bytesRow s cap).size := by
      unfold bytesRow
      simp
      exact Nat.lt_of_lt_of_le hj (Nat.le_add_right _ _)
    simp
    omega
theorem Turned.drew {s : ByteArray} {b k : Nat} {w wr : World} (h : Turned s b k w wr) : Turned s b k w wr.drew := ⟨h.1.drew, h.2.1, h.2.2.1, h.2.2.2⟩
theorem Turned.set {s : ByteArray} {b k : Nat} {w wr : World} (h : Turned s b k w wr) (hk : k < s.size) : Turned s b (k + 1) w (wr.setCell ⟨b, k, none⟩ (.int .u8 (capI (part s k k)))) := by
  refine ⟨h.1.setCell (Nat.le_refl _) _, by simpa using h.2.1, ?_, ?_⟩
  · intro j hj
    by_cases e : j = k
    · subst e
      rw [World.cell?_setCell_same _ _ _ (h.2.2.1 j hj)]
      unfold part
      rw [if_neg (by omega), if_pos (by omega)]
    · rw [World.cell?_setCell_other _ _ _ _ (by intro q; injection q; omega), h.2.2.1 j hj]
      unfold part
      by_cases f : j < k
      · rw [if_pos f, if_pos (by omega)]
      · rw [if_neg f, if_neg (by omega)]
  · intro j hj
    rw [World.frozen?_setCell]
    exact h.2.2.2 j hj
theorem Turned.keep {s : ByteArray} {b k : Nat} {w wr : World} (h : Turned s b k w wr) (hk : k < s.size) (hc : capI (part s k k) = part s k k) : Turned s b (k + 1) w wr := by
  refine ⟨h.1, h.2.1, ?_, h.2.2.2⟩
  intro j hj
  rw [h.2.2.1 j hj]
  by_cases e : j = k
  · subst e
    have : part s (j + 1) j = capI (part s j j) := by
      unfold part
      rw [if_pos (by omega : j < j + 1), if_neg (by omega : ¬ j < j)]
    rw [this, hc]
  · unfold part
    by_cases f : j < k
    · rw [if_pos f, if_pos (by omega)]
    · rw [if_neg f, if_neg (by omega)]
theorem Turned.back {s : ByteArray} {b : Nat} {w wr : World} (h : Turned s b s.size w wr) (src dst e : TypeId) (cap : Nat) (hs : Tryz.prog.underlying src = some (.slice e)) (he : Tryz.prog.underlying e = some (.int .u8)) (hd : Tryz.prog.underlying dst = some .string) :
    (convert src dst (.slice (some ⟨b, 0, none⟩) s.size cap)).run Tryz.prog wr = .ok (.string (capS s)) wr := by
  have := run_convert_bytes_back (P := Tryz.prog) wr src dst e ⟨b, 0, none⟩ cap (s.data.toList.map capU) hs he hd (fun j hj => by
    have hj' : j < s.size := by simpa using hj
    rw [← part_all s j hj, ← h.2.2.1 j hj']
    by_cases e : j = 0
    · subst e; rfl
    · simp [Addr.add, e])
  rw [show (s.data.toList.map capU).length = s.size by simp] at this
  exact this
set_option maxRecDepth 20000 in
set_option maxHeartbeats 2000000 in
theorem capitals_of (s : ByteArray) (w : World) (hs : s.size ≤ maxLen) : Calls Tryz.prog 185 #[.string s] w fun e w' => e = .returned (.string (capS s)) ∧ Below w.heap.size w w' := by
  unfold maxLen at hs
  have hconv := run_bytes_of_string (P := Tryz.prog) w 9 266 5 s rfl rfl rfl
  go_enter Tryz.func185, Tryz.ntmps185
  go_wp2_with fail
  go_loopw [9] (fun i wr => ∃ k : Nat, k ≤ s.size ∧ i = .int .i64 k ∧ Turned s w.heap.size k w wr) (fun i _ => s.size - (intOf i).toNat)
  case atStart => exact ⟨0, Nat.zero_le _, rfl, (turned_start s w 5 _).drew⟩
  case round =>
    obtain ⟨k, hk, rfl, H⟩ := hrel
    clear hconv
    by_cases hlt : k < s.size
    · have hc := H.2.2.1 k hlt
      have hf := H.2.2.2 k hlt
      have hb := part_bounds s k k
      go_wp2_with (go_at_call 211; refine (capital_of _ hb.1 hb.2 _).mono ?_; rintro e w1 ⟨rfl, rfl⟩)
      go_roundw
      case rel => exact ⟨k + 1, by omega, by go_num, H.set hlt⟩
      case measure => simp [intOf]; omega
    · have e : k = s.size := by omega
      subst e
      have hb := H.back 266 9 5 (grownCap w s.size 0 5) rfl rfl rfl
      have hd := H.drew.back 266 9 5 (grownCap w s.size 0 5) rfl rfl rfl
      go_wp2
      go_ret
      first
      | exact ⟨rfl, H.1⟩
      | exact ⟨rfl, H.1.drew⟩
end Go.Proofs.YtoiipiapgidbiaaGreatDoor
