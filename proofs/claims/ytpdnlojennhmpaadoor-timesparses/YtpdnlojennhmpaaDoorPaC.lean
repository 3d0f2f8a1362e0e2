/- What findUnit, nanos and cutPart of times answer, of any text; no statement of the seat is proved here. -/
import Derived.Test.YtpdnlojennhmpaaDoorPaB
import Derived.Test.YtpdnlojennhmpaaDoorAwk2
namespace Go.Proofs.YtpdnlojennhmpaaDoor
set_option linter.unusedVariables false
open Go.RowKit
def uN (i : Nat) : ByteArray := ([⟨#[68]⟩, ⟨#[72]⟩, ⟨#[77]⟩, ⟨#[83]⟩, ⟨#[77, 83]⟩, ⟨#[85, 83]⟩, ⟨#[78, 83]⟩] : List ByteArray).getD i ⟨#[]⟩
def uL (i : Nat) : Int := ([86400000000000, 3600000000000, 60000000000, 1000000000, 1000000, 1000, 1] : List Int).getD i 1
def uB (i : Nat) : Int := ([9223372036854775807, 24, 60, 60, 1000, 1000, 1000] : List Int).getD i 0
/-- The table of the units lies as it was laid. -/
def UT7 (w : World) : Prop := ∀ i : Nat, i < 7 → w.cell? ⟨0, i * 3, none⟩ = some (.string (uN i)) ∧ w.cell? ⟨0, i * 3 + 1, none⟩ = some (.int .i64 (uL i)) ∧ w.cell? ⟨0, i * 3 + 2, none⟩ = some (.int .i64 (uB i))
theorem UT7.pos {w : World} (u : UT7 w) : 0 < w.heap.size := World.block_lt_of_cell? w ⟨0, 0, none⟩ (u 0 (by omega)).1
theorem UT7.next {w w1 : World} (u : UT7 w) (h : Below w.heap.size w w1) : UT7 w1 := fun i hi => by
  have p := u.pos
  obtain ⟨a, b, c⟩ := u i hi
  exact ⟨(h.cell (p := ⟨0, i * 3, none⟩) p).trans a, (h.cell (p := ⟨0, i * 3 + 1, none⟩) p).trans b, (h.cell (p := ⟨0, i * 3 + 2, none⟩) p).trans c⟩
theorem uL_bd (i : Nat) (h : i < 7) : 1 ≤ uL i ∧ uL i ≤ 86400000000000 := by
  rcases (by omega : i = 0 ∨ i = 1 ∨ i = 2 ∨ i = 3 ∨ i = 4 ∨ i = 5 ∨ i = 6) with rfl | rfl | rfl | rfl | rfl | rfl | rfl <;> decide
/-- A unit's number, if one is found. -/
def FndU (a : Nat) (e : Ending) : Prop := ∃ (i : Nat) (p : Bool), e = .returned (.tuple #[.int .i64 i, .bool p]) ∧ i < 7 ∧ (p = true → a ≤ i)
set_option maxHeartbeats 1000000 in
theorem findUnit_of (s : ByteArray) (a : Nat) (w : World) (u : UT7 w) (ha : a ≤ 7) : Calls Tryd.prog 16 #[.string s, .int .i64 a] w fun e w' => FndU a e ∧ w' = w := by
  have U : Hid (UT7 w) := u
  clear u
  go_enter Tryd.func16, Tryd.ntmps16
  go_wp2_with fail
  go_loop [6] (fun v => ∃ k : Nat, a ≤ k ∧ k ≤ 7 ∧ v = .int .i64 k) (fun v => 7 - (intOf v).toNat)
  case atStart => exact ⟨a, Nat.le_refl _, ha, rfl⟩
  case round =>
    obtain ⟨k, h1, h2, rfl⟩ := hrel
    by_cases hlt : k < 7
    · have i1 : (k : Int) < 7 := by omega
      obtain ⟨c0, c1, c2⟩ := U.out k hlt
      cases q : ((uN k).toList == s.toList)
      · go_wp2
        go_round
        case rel => exact ⟨k + 1, by omega, by omega, by go_num⟩
        case measure => simp [intOf]; omega
      · go_wp2
        go_returns
        exact ⟨⟨k, true, rfl, hlt, fun _ => h1⟩, rfl⟩
    · go_wp2
      go_returns
      exact ⟨⟨0, false, rfl, by omega, fun h => by cases h⟩, rfl⟩
/-- An int, and whether there is one. -/
def RdZ (e : Ending) : Prop := ∃ n p, e = .returned (.tuple #[.int .i64 n, .bool p]) ∧ -9223372036854775808 ≤ n ∧ n < 9223372036854775808
theorem wrap64_bdT (x : Int) : -9223372036854775808 ≤ wrap64 x ∧ wrap64 x < 9223372036854775808 := by
  unfold wrap64
  omega
set_option maxHeartbeats 4000000 in
theorem nanos_ex (a b : ByteArray) (d : Bool) (c un : ByteArray) (l m : Int) (f : Bool) (ha : a.size ≤ maxLen) (hb : b.size ≤ maxLen) (l0 : 1 ≤ l) (l1 : l ≤ 86400000000000) :
    ∃ n p, (-9223372036854775808 ≤ n ∧ n < 9223372036854775808) ∧ ∀ w, Calls Tryd.prog 18 #[.agg #[.string a, .string b, .bool d, .string c], .agg #[.string un, .int .i64 l, .int .i64 m], .bool f] w fun e w' => e = .returned (.tuple #[.int .i64 n, .bool p]) ∧ Below w.heap.size w w' := by
  obtain ⟨n, p, hn, hR1⟩ := readNum_ex a ha
  obtain ⟨r, q, hr, hR2⟩ := readFrac_ex b l hb (by omega) l1
  have R1 : Hid _ := hR1
  have R2 : Hid _ := hR2
  clear hR1 hR2
  have no : ∀ (P : Prop), (∀ w, Calls Tryd.prog 18 #[.agg #[.string a, .string b, .bool d, .string c], .agg #[.string un, .int .i64 l, .int .i64 m], .bool f] w fun e w' => e = .returned (.tuple #[.int .i64 0, .bool false]) ∧ Below w.heap.size w w') →
      ∃ n p, (-9223372036854775808 ≤ n ∧ n < 9223372036854775808) ∧ ∀ w, Calls Tryd.prog 18 #[.agg #[.string a, .string b, .bool d, .string c], .agg #[.string un, .int .i64 l, .int .i64 m], .bool f] w fun e w' => e = .returned (.tuple #[.int .i64 n, .bool p]) ∧ Below w.heap.size w w' := fun _ h => ⟨0, false, by omega, h⟩
  cases p
  · refine no True fun w => ?_
    go_enter Tryd.func18, Tryd.ntmps18
    go_wp2_with (first
      | (go_at_call 47; refine (R1.out _).mono ?_; rintro e w1 ⟨rfl, rfl⟩)
      | (go_at_call 26; refine (R2.out _).mono ?_; rintro e w2 ⟨rfl, rfl⟩))
    go_returns
    exact ⟨rfl, ((Below.refl _ _).alloc (Nat.le_refl _) _).alloc (by simp) _⟩
  cases q
  · refine no True fun w => ?_
    go_enter Tryd.func18, Tryd.ntmps18
    go_wp2_with (first
      | (go_at_call 47; refine (R1.out _).mono ?_; rintro e w1 ⟨rfl, rfl⟩)
      | (go_at_call 26; refine (R2.out _).mono ?_; rintro e w2 ⟨rfl, rfl⟩))
    go_returns
    exact ⟨rfl, ((Below.refl _ _).alloc (Nat.le_refl _) _).alloc (by simp) _⟩
  have dots : (d = true ∧ b.toList.isEmpty = true) ∨ d = false ∨ (d = true ∧ b.toList.isEmpty = false) := by
    cases d <;> cases b.toList.isEmpty <;> simp
  have firsts : f = true ∨ (f = false ∧ m ≤ n) ∨ (f = false ∧ n < m) := by
    rcases Int.lt_or_le n m with h | h <;> cases f <;> simp [h]
  have great : (9223372036854775807 - r) / l < n ∨ n ≤ (9223372036854775807 - r) / l := by omega
  rcases dots with ⟨rfl, d2⟩ | rfl | ⟨rfl, d2⟩
  · refine no True fun w => ?_
    go_enter Tryd.func18, Tryd.ntmps18
    go_wp2_with (first
      | (go_at_call 47; refine (R1.out _).mono ?_; rintro e w1 ⟨rfl, rfl⟩)
      | (go_at_call 26; refine (R2.out _).mono ?_; rintro e w2 ⟨rfl, rfl⟩))
    go_returns
    exact ⟨rfl, ((Below.refl _ _).alloc (Nat.le_refl _) _).alloc (by simp) _⟩
  all_goals
    rcases firsts with rfl | ⟨rfl, f2⟩ | ⟨rfl, f2⟩
  all_goals
    rcases great with g | g
  all_goals first
    | (refine no True fun w => ?_
       go_enter Tryd.func18, Tryd.ntmps18
       go_wp2_with (first
         | (go_at_call 47; refine (R1.out _).mono ?_; rintro e w1 ⟨rfl, rfl⟩)
         | (go_at_call 26; refine (R2.out _).mono ?_; rintro e w2 ⟨rfl, rfl⟩))
       go_returns
       exact ⟨rfl, ((Below.refl _ _).alloc (Nat.le_refl _) _).alloc (by simp) _⟩)
    | (refine ⟨wrap64 (wrap64 (n * l) + r), true, wrap64_bdT _, fun w => ?_⟩
       go_enter Tryd.func18, Tryd.ntmps18
       go_wp2_with (first
         | (go_at_call 47; refine (R1.out _).mono ?_; rintro e w1 ⟨rfl, rfl⟩)
         | (go_at_call 26; refine (R2.out _).mono ?_; rintro e w2 ⟨rfl, rfl⟩))
       go_returns
       exact ⟨rfl, ((Below.refl _ _).alloc (Nat.le_refl _) _).alloc (by simp) _⟩)
/-- A part of a span, and what stands behind it. -/
def PartS (s : ByteArray) (e : Ending) : Prop := ∃ (a b : ByteArray) (d : Bool) (c r : ByteArray), e = .returned (.tuple #[.agg #[.string a, .string b, .bool d, .string c], .string r]) ∧ a.size ≤ s.size ∧ b.size ≤ s.size ∧ c.size ≤ s.size ∧ r.size ≤ s.size ∧ ∀ (j : Nat) (x : UInt8), c.data.toList[j]? = some x → x.toNat < 128
theorem ext_le (s : ByteArray) (a b : Nat) : (s.extract a b).size ≤ s.size := by
  rw [ByteArray.size_extract]
  omega
theorem letters (s : ByteArray) (j : Nat) (x : UInt8) (h : (s.extract 0 (cutN letT s)).data.toList[j]? = some x) : x.toNat < 128 := by
  have e : (s.extract 0 (cutN letT s)).data.toList = s.data.toList.take (cutN letT s) := by
    rw [ByteArray.data_extract]
    simp
  rw [e] at h
  have hj : j < cutN letT s := by
    rcases Nat.lt_or_ge j (cutN letT s) with q | q
    · exact q
    · rw [List.getElem?_eq_none (by simp; omega)] at h
      cases h
  rw [List.getElem?_take_of_lt hj] at h
  have := runT_all letT s.data.toList j x hj h
  unfold letT at this
  simp at this
  omega
set_option maxHeartbeats 2000000 in
theorem cutPart_of (s : ByteArray) (w : World) (hs : s.size ≤ maxLen) : Calls Tryd.prog 15 #[.string s] w fun e w' => PartS s e ∧ Below w.heap.size w w' := by
  have C1 : Hid _ := fun w => cut_digit s w hs
  have k1 := ext_le s 0 (cutN digT s)
  have k2 := ext_le s (cutN digT s) s.size
  generalize s.extract 0 (cutN digT s) = a at *
  generalize s.extract (cutN digT s) s.size = y at *
  have hy : y.size ≤ maxLen := Nat.le_trans k2 hs
  have C2 : Hid _ := fun w => cutPre_of 46 y w hy
  have k3 := aftB_size 46 y
  generalize aftB 46 y = z at *
  have hz : z.size ≤ maxLen := Nat.le_trans k3 hy
  have C3 : Hid _ := fun w => cut_digit z w hz
  have k4 := ext_le z 0 (cutN digT z)
  have k5 := ext_le z (cutN digT z) z.size
  generalize z.extract 0 (cutN digT z) = b at *
  generalize z.extract (cutN digT z) z.size = y2 at *
  have hy2 : y2.size ≤ maxLen := Nat.le_trans k5 hz
  cases q : preB 46 y
  · rw [q] at C2
    have C4 : Hid _ := fun w => cut_letter z w hz
    have L : Hid _ := letters z
    have k6 := ext_le z 0 (cutN letT z)
    have k7 := ext_le z (cutN letT z) z.size
    generalize z.extract 0 (cutN letT z) = c at *
    generalize z.extract (cutN letT z) z.size = r at *
    clear q
    go_enter Tryd.func15, Tryd.ntmps15
    go_wp2_with fail
    refine (C1.out _).mono ?_
    rintro e w1 ⟨rfl, hb⟩
    obtain ⟨c0, c1, f0, f1, B1, z1⟩ := bb2 hb
    clear hb
    go_wp2_with (go_at_call 14; refine (C2.out _).mono ?_; rintro e w2 ⟨rfl, rfl⟩)
    refine (C4.out _).mono ?_
    rintro e w3 ⟨rfl, hb3⟩
    obtain ⟨d0, d1, g0, g1, z3⟩ := bb3 (h := w.heap.size) hb3 (by simpa using z1)
    go_wp2
    have B3 : Below w.heap.size w w3 := ((B1.setCell (by simp) _).setCell (by simp) _).trans (hb3.mono (by simp; omega))
    refine bodyPost_ret (v := .tuple #[.agg #[.string a, .string s0, .bool false, .string c], .string r]) (by simp [results, Tryd.results15, go_sem, d0, c0]) rfl ⟨⟨a, s0, false, c, r, rfl, k1, Nat.zero_le _, by omega, by omega, L.out⟩, ?_⟩
    go_grown
  · rw [q] at C2
    have C4 : Hid _ := fun w => cut_letter y2 w hy2
    have L : Hid _ := letters y2
    have k6 := ext_le y2 0 (cutN letT y2)
    have k7 := ext_le y2 (cutN letT y2) y2.size
    generalize y2.extract 0 (cutN letT y2) = c at *
    generalize y2.extract (cutN letT y2) y2.size = r at *
    clear q
    go_enter Tryd.func15, Tryd.ntmps15
    go_wp2_with fail
    refine (C1.out _).mono ?_
    rintro e w1 ⟨rfl, hb⟩
    obtain ⟨c0, c1, f0, f1, B1, z1⟩ := bb2 hb
    clear hb
    go_wp2_with (go_at_call 14; refine (C2.out _).mono ?_; rintro e w2 ⟨rfl, rfl⟩)
    refine (C3.out _).mono ?_
    rintro e w3 ⟨rfl, hb3⟩
    obtain ⟨d0, d1, g0, g1, z3⟩ := bb3 (h := w.heap.size) hb3 (by simpa using z1)
    have B3 : Hid (Below w.heap.size w w3) := ((B1.setCell (by simp) _).setCell (by simp) _).trans (hb3.mono (by simp; omega))
    go_wp2_with fail
    refine (C4.out _).mono ?_
    rintro e w4 ⟨rfl, hb4⟩
    obtain ⟨e0, e1, j0, j1, z4⟩ := bb3 (h := w.heap.size) hb4 (by simpa using z3)
    have B4 : Below w.heap.size w w4 := (B3.out.setCell (by simp) _).trans (hb4.mono (by simp; omega))
    go_wp2
    refine bodyPost_ret (v := .tuple #[.agg #[.string a, .string b, .bool true, .string c], .string r]) (by simp [results, Tryd.results15, go_sem, e0, d0, c0]) rfl ⟨⟨a, b, true, c, r, rfl, k1, by omega, by omega, by omega, L.out⟩, ?_⟩
    go_grown
end Go.Proofs.YtpdnlojennhmpaaDoor
