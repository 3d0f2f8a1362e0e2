/- The document's image: a code's bytes, exactly; no statement of the seat is proved here. -/
import Derived.Test.YtdcjngakmkgbmaaGreatKoA8
import Derived.Test.YtdcjngakmkgbmaaGreatKoB3
import Derived.Test.YtdcjngakmkgbmaaGreatKoA1
import Derived.Test.YtdcjngakmkgbmaaGreatKoB1
import Derived.Test.YtdcjngakmkgbmaaGreatKoA3
import Derived.Test.YtdcjngakmkgbmaaGreatKoB2
import Derived.Deep.RegionLaw
namespace Go.Proofs.YtdcjngakmkgbmaaGreat
set_option linter.unusedVariables false
set_option linter.unusedSimpArgs false
open Go.RowKit
/-- At p stands x. -/
def Sat (bs : List Nat) (p : Nat) (x : List Nat) : Prop := ∀ (j : Nat) v, x[j]? = some v → bs[p + j]? = some v
theorem Sat.nil {bs : List Nat} {p : Nat} : Sat bs p [] := fun j v h => by simp at h
theorem Sat.app {bs : List Nat} {p : Nat} {x y : List Nat} (h : Sat bs p x) (k : Sat bs (p + x.length) y) : Sat bs p (x ++ y) := fun j v hj => by
  by_cases q : j < x.length
  · rw [List.getElem?_append_left q] at hj; exact h j v hj
  · rw [List.getElem?_append_right (by omega)] at hj
    have := k _ v hj
    rw [show p + x.length + (j - x.length) = p + j by omega] at this
    exact this
theorem Sat.left {bs : List Nat} {p : Nat} {x y : List Nat} (h : Sat bs p (x ++ y)) : Sat bs p x := fun j v hj => h j v (by rw [List.getElem?_append_left (List.getElem?_eq_some_iff.1 hj).1]; exact hj)
theorem Sat.right {bs : List Nat} {p : Nat} {x y : List Nat} (h : Sat bs p (x ++ y)) : Sat bs (p + x.length) y := fun j v hj => by
  have := h (x.length + j) v (by rw [List.getElem?_append_right (by omega), Nat.add_sub_cancel_left]; exact hj)
  rw [Nat.add_assoc]; exact this
theorem Sat.le {bs : List Nat} {p : Nat} {x : List Nat} (h : Sat bs p x) (h0 : 0 < x.length) : p + x.length ≤ bs.length := by
  have := h (x.length - 1) _ (List.getElem?_eq_getElem (by omega))
  have := (List.getElem?_eq_some_iff.1 this).1
  omega
theorem Sat.take {bs : List Nat} {p : Nat} {x : List Nat} (h : Sat bs p x) : (bs.drop p).take x.length = x := by
  apply List.ext_getElem?
  intro j
  rw [List.getElem?_take]
  by_cases q : j < x.length
  · rw [if_pos q, List.getElem?_drop, List.getElem?_eq_getElem q]
    exact h j _ (List.getElem?_eq_getElem q)
  · rw [if_neg q, List.getElem?_eq_none (by omega)]
theorem sat_take (bs : List Nat) (p n : Nat) : Sat bs p ((bs.drop p).take n) := fun j v hj => drop_get bs p n hj
/-- A reader reads just what is written so. -/
structure Rw {α : Type} (bs : List Nat) (rd : RS → α × RS) (enc : α → List Nat) (Ok : α → Prop) : Prop where
  A : ∀ s, (rd s).2.y = 0 → s.y = 0 ∧ Ok (rd s).1 ∧ Sat bs s.p (enc (rd s).1) ∧ (rd s).2 = ⟨s.p + (enc (rd s).1).length, s.a, 0⟩
  B : ∀ s v, s.y = 0 → Ok v → Sat bs s.p (enc v) → rd s = (v, ⟨s.p + (enc v).length, s.a, 0⟩)
def seqR {α β : Type} (r1 : RS → α × RS) (r2 : RS → β × RS) (s : RS) : (α × β) × RS := (((r1 s).1, (r2 (r1 s).2).1), (r2 (r1 s).2).2)
def mapR {α β : Type} (f : α → β) (r : RS → α × RS) (s : RS) : β × RS := (f (r s).1, (r s).2)
theorem Rw.seq {α β : Type} {bs : List Nat} {r1 : RS → α × RS} {r2 : RS → β × RS} {e1 : α → List Nat} {e2 : β → List Nat} {O1 : α → Prop} {O2 : β → Prop} (h1 : Rw bs r1 e1 O1) (h2 : Rw bs r2 e2 O2) :
    Rw bs (seqR r1 r2) (fun v => e1 v.1 ++ e2 v.2) (fun v => O1 v.1 ∧ O2 v.2) := by
  refine ⟨fun s h => ?_, fun s v hy ho hs => ?_⟩
  · obtain ⟨a1, a2, a3, a4⟩ := h2.A (r1 s).2 h
    obtain ⟨b1, b2, b3, b4⟩ := h1.A s a1
    refine ⟨b1, ⟨b2, a2⟩, ?_, ?_⟩
    · refine b3.app ?_
      rw [b4] at a3
      have q : (r1 s).2 = ⟨s.p + (e1 (r1 s).1).length, s.a, 0⟩ := b4
      show Sat bs (s.p + (e1 (r1 s).1).length) (e2 (r2 (r1 s).2).1)
      rw [← q] at a3
      rw [show s.p + (e1 (r1 s).1).length = (r1 s).2.p by rw [q]]
      exact a3
    · show (r2 (r1 s).2).2 = ⟨s.p + (e1 (r1 s).1 ++ e2 (r2 (r1 s).2).1).length, s.a, 0⟩
      rw [a4]
      have q : (r1 s).2 = ⟨s.p + (e1 (r1 s).1).length, s.a, 0⟩ := b4
      rw [show (r1 s).2.p = s.p + (e1 (r1 s).1).length by rw [q], show (r1 s).2.a = s.a by rw [q], List.length_append, Nat.add_assoc]
  · have b := h1.B s v.1 hy ho.1 hs.left
    have a := h2.B ⟨s.p + (e1 v.1).length, s.a, 0⟩ v.2 rfl ho.2 hs.right
    show (((r1 s).1, (r2 (r1 s).2).1), (r2 (r1 s).2).2) = _
    rw [b]
    show ((v.1, (r2 ⟨s.p + (e1 v.1).length, s.a, 0⟩).1), (r2 ⟨s.p + (e1 v.1).length, s.a, 0⟩).2) = _
    rw [a]
    show ((v.1, v.2), (⟨s.p + (e1 v.1).length + (e2 v.2).length, s.a, 0⟩ : RS)) = (v, ⟨s.p + (e1 v.1 ++ e2 v.2).length, s.a, 0⟩)
    rw [List.length_append, Nat.add_assoc]
theorem Rw.map {α β : Type} {bs : List Nat} {r : RS → α × RS} {e : α → List Nat} {O : α → Prop} (h : Rw bs r e O) (f : α → β) (g : β → α) (e' : β → List Nat) (O' : β → Prop)
    (fg : ∀ b, O' b → f (g b) = b ∧ O (g b) ∧ e (g b) = e' b) (gf : ∀ a, O a → O' (f a) ∧ e' (f a) = e a) : Rw bs (mapR f r) e' O' := by
  refine ⟨fun s hs => ?_, fun s v hy ho hv => ?_⟩
  · obtain ⟨a1, a2, a3, a4⟩ := h.A s hs
    obtain ⟨g1, g2⟩ := gf _ a2
    refine ⟨a1, g1, ?_, ?_⟩
    · show Sat bs s.p (e' (f (r s).1))
      rw [g2]; exact a3
    · show (r s).2 = ⟨s.p + (e' (f (r s).1)).length, s.a, 0⟩
      rw [g2]; exact a4
  · obtain ⟨f1, f2, f3⟩ := fg v ho
    have b := h.B s (g v) hy f2 (by rw [f3]; exact hv)
    show (f (r s).1, (r s).2) = _
    rw [b, ← f3]
    show (f (g v), _) = _
    rw [f1]
/-- A number of eight bytes. -/
def I64 (n : Int) : Prop := -9223372036854775808 ≤ n ∧ n ≤ 9223372036854775807
theorem le8 (b0 b1 b2 b3 b4 b5 b6 b7 : Nat) : leN [b0, b1, b2, b3, b4, b5, b6, b7] = b0 + 256 * (b1 + 256 * (b2 + 256 * (b3 + 256 * (b4 + 256 * (b5 + 256 * (b6 + 256 * b7)))))) := by simp [leN]
theorem nb8 (n : Int) : nbN n = [(n % 256).toNat, (n / 256 % 256).toNat, (n / 65536 % 256).toNat, (n / 16777216 % 256).toNat, (n / 4294967296 % 256).toNat, (n / 1099511627776 % 256).toNat, (n / 281474976710656 % 256).toNat, (n / 72057594037927936 % 256).toNat] := by
  unfold nbN nbK
  simp [List.range_succ]
theorem len8 {t : List Nat} (h : t.length = 8) : ∃ b0 b1 b2 b3 b4 b5 b6 b7, t = [b0, b1, b2, b3, b4, b5, b6, b7] := by
  match t, h with
  | [b0, b1, b2, b3, b4, b5, b6, b7], _ => exact ⟨_, _, _, _, _, _, _, _, rfl⟩
theorem nb_le {t : List Nat} (h : t.length = 8) (h8 : ∀ b ∈ t, b < 256) : nbN (wrap64 (leN t : Int)) = t := by
  obtain ⟨b0, b1, b2, b3, b4, b5, b6, b7, rfl⟩ := len8 h
  have c0 := h8 b0 (by simp)
  have c1 := h8 b1 (by simp)
  have c2 := h8 b2 (by simp)
  have c3 := h8 b3 (by simp)
  have c4 := h8 b4 (by simp)
  have c5 := h8 b5 (by simp)
  have c6 := h8 b6 (by simp)
  have c7 := h8 b7 (by simp)
  clear h h8
  rw [le8, nb8]
  obtain ⟨w, hw, q⟩ : ∃ w : Int, w = wrap64 (((b0 + 256 * (b1 + 256 * (b2 + 256 * (b3 + 256 * (b4 + 256 * (b5 + 256 * (b6 + 256 * b7)))))) : Nat)) : Int) ∧ ∃ k : Int, w = b0 + 256 * (b1 + 256 * (b2 + 256 * (b3 + 256 * (b4 + 256 * (b5 + 256 * (b6 + 256 * (b7 - 256 * k))))))) := by
    refine ⟨_, rfl, ?_⟩
    by_cases h : b7 < 128
    · exact ⟨0, by unfold wrap64; omega⟩
    · exact ⟨1, by unfold wrap64; omega⟩
  obtain ⟨k, q⟩ := q
  rw [← hw]
  clear hw
  congr 1
  · omega
  congr 1
  · omega
  congr 1
  · omega
  congr 1
  · omega
  congr 1
  · omega
  congr 1
  · omega
  congr 1
  · omega
  congr 1
  omega
theorem le_sum (n : Int) : (leN (nbN n) : Int) = n % 18446744073709551616 := by
  rw [nb8, le8]
  have e2 : n / 65536 = n / 256 / 256 := by omega
  have e3 : n / 16777216 = n / 256 / 256 / 256 := by omega
  have e4 : n / 4294967296 = n / 256 / 256 / 256 / 256 := by omega
  have e5 : n / 1099511627776 = n / 256 / 256 / 256 / 256 / 256 := by omega
  have e6 : n / 281474976710656 = n / 256 / 256 / 256 / 256 / 256 / 256 := by omega
  have e7 : n / 72057594037927936 = n / 256 / 256 / 256 / 256 / 256 / 256 / 256 := by omega
  have e8 : n / 18446744073709551616 = n / 256 / 256 / 256 / 256 / 256 / 256 / 256 / 256 := by omega
  rw [e2, e3, e4, e5, e6, e7]
  have em := Int.emod_add_mul_ediv n 18446744073709551616
  rw [e8] at em
  generalize h1 : n / 256 = q1 at *
  generalize h2 : q1 / 256 = q2 at *
  generalize h3 : q2 / 256 = q3 at *
  generalize h4 : q3 / 256 = q4 at *
  generalize h5 : q4 / 256 = q5 at *
  generalize h6 : q5 / 256 = q6 at *
  generalize h7 : q6 / 256 = q7 at *
  generalize h8 : q7 / 256 = q8 at *
  generalize n % 18446744073709551616 = m at *
  clear e2 e3 e4 e5 e6 e7 e8
  have g0 : ((n % 256).toNat : Int) = n - 256 * q1 := by omega
  have g1 : ((q1 % 256).toNat : Int) = q1 - 256 * q2 := by omega
  have g2 : ((q2 % 256).toNat : Int) = q2 - 256 * q3 := by omega
  have g3 : ((q3 % 256).toNat : Int) = q3 - 256 * q4 := by omega
  have g4 : ((q4 % 256).toNat : Int) = q4 - 256 * q5 := by omega
  have g5 : ((q5 % 256).toNat : Int) = q5 - 256 * q6 := by omega
  have g6 : ((q6 % 256).toNat : Int) = q6 - 256 * q7 := by omega
  have g7 : ((q7 % 256).toNat : Int) = q7 - 256 * q8 := by omega
  generalize (n % 256).toNat = b0 at *
  generalize (q1 % 256).toNat = b1 at *
  generalize (q2 % 256).toNat = b2 at *
  generalize (q3 % 256).toNat = b3 at *
  generalize (q4 % 256).toNat = b4 at *
  generalize (q5 % 256).toNat = b5 at *
  generalize (q6 % 256).toNat = b6 at *
  generalize (q7 % 256).toNat = b7 at *
  clear h1 h2 h3 h4 h5 h6 h7 h8
  omega
theorem le_nb {n : Int} (h : I64 n) : wrap64 (leN (nbN n) : Int) = n := by
  obtain ⟨h1, h2⟩ := h
  rw [le_sum]
  unfold wrap64
  omega
end Go.Proofs.YtdcjngakmkgbmaaGreat
namespace Go.Proofs.YtdcjngakmkgbmaaGreat
set_option linter.unusedVariables false
set_option linter.unusedSimpArgs false
open Go.RowKit
theorem u64_wrap (n : Int) : IntKind.u64.wrap n = n % 18446744073709551616 := by simp [IntKind.wrap, IntKind.signed, IntKind.bits]
section
variable {bs : List Nat} (h8 : ∀ v ∈ bs, v < 256) (hn : bs.length ≤ 4194304)
include h8
theorem rwB : Rw bs (rdB bs) (fun b => [b]) (fun b => b < 256) := by
  refine ⟨fun s h => ?_, fun s v hy ho hv => ?_⟩
  · by_cases q : s.y = 0 ∧ s.p < bs.length
    · have e : rdB bs s = (bs.getD s.p 0, ⟨s.p + 1, s.a, 0⟩) := by unfold rdB; rw [if_pos q]
      have g : bs[s.p]? = some (bs.getD s.p 0) := by rw [List.getD_eq_getElem?_getD, List.getElem?_eq_getElem q.2]; rfl
      rw [e]
      refine ⟨q.1, h8 _ (List.mem_of_getElem? g), fun j v hj => ?_, rfl⟩
      match j, hj with
      | 0, hj => cases hj; exact g
    · have e : rdB bs s = (0, s.no bs.length) := by unfold rdB; rw [if_neg q]
      rw [e] at h
      exact absurd h (RS.no_y _ _)
  · have g := hv 0 v rfl
    have hl := (List.getElem?_eq_some_iff.1 g).1
    unfold rdB
    rw [if_pos ⟨hy, hl⟩, List.getD_eq_getElem?_getD]
    rw [Nat.add_zero] at g
    rw [g]
    rfl
theorem rwN : Rw bs (rdN bs) nbN I64 := by
  refine ⟨fun s h => ?_, fun s v hy ho hv => ?_⟩
  · by_cases q : s.y = 0 ∧ s.p + 8 ≤ bs.length
    · have e : rdN bs s = (wrap64 (leN ((bs.drop s.p).take 8) : Int), ⟨s.p + 8, s.a, 0⟩) := by unfold rdN; rw [if_pos q]
      have l8 : ((bs.drop s.p).take 8).length = 8 := by rw [List.length_take, List.length_drop]; omega
      have r8 := nb_le l8 (fun b hb => h8 b (List.mem_of_mem_drop (List.mem_of_mem_take hb)))
      rw [e]
      refine ⟨q.1, ?_, ?_, ?_⟩
      · show I64 (wrap64 _)
        unfold I64 wrap64
        omega
      · show Sat bs s.p (nbN _)
        rw [r8]
        exact sat_take _ _ _
      · show _ = (⟨s.p + (nbN _).length, s.a, 0⟩ : RS)
        rw [nbN_len]
    · have e : rdN bs s = (0, s.no bs.length) := by unfold rdN; rw [if_neg q]
      rw [e] at h
      exact absurd h (RS.no_y _ _)
  · have hl := hv.le (by rw [nbN_len]; omega)
    have ht := hv.take
    rw [nbN_len] at hl ht
    unfold rdN
    rw [if_pos ⟨hy, hl⟩, ht, le_nb ho, nbN_len]
theorem rwF : Rw bs (rdF bs) (fun b => [bbN b]) (fun _ => True) := by
  refine ⟨fun s h => ?_, fun s v hy ho hv => ?_⟩
  · change (rdF bs s).2.y = 0 at h
    unfold rdF at h
    dsimp only at h
    by_cases q : 1 < (rdB bs s).1
    · rw [if_pos q] at h; exact absurd h (show ¬ (203 : Int) = 0 by decide)
    · rw [if_neg q] at h
      obtain ⟨a1, a2, a3, a4⟩ := (rwB h8).A s h
      have e : rdF bs s = ((rdB bs s).1 == 1, (rdB bs s).2) := by unfold rdF; rw [if_neg q]
      rw [e]
      have eb : bbN ((rdB bs s).1 == 1) = (rdB bs s).1 := by
        unfold bbN
        rcases (show (rdB bs s).1 = 0 ∨ (rdB bs s).1 = 1 by omega) with z | z <;> rw [z] <;> rfl
      exact ⟨a1, trivial, by show Sat bs s.p [bbN ((rdB bs s).1 == 1)]; rw [eb]; exact a3, a4⟩
  · have b := (rwB h8).B s (bbN v) hy (by cases v <;> decide) hv
    unfold rdF
    rw [b]
    have q : ¬ 1 < bbN v := by cases v <;> decide
    show ((bbN v == 1), if 1 < bbN v then _ else _) = _
    rw [if_neg q]
    cases v <;> rfl
/-- A count that may be. -/
theorem rdC_A (s : RS) (h : (rdC bs s).2.y = 0) : s.y = 0 ∧ 0 ≤ (rdC bs s).1 ∧ (rdC bs s).1 ≤ (bs.length : Int) - (s.p + 8) ∧ Sat bs s.p (nbN (rdC bs s).1) ∧ (rdC bs s).2 = ⟨s.p + 8, s.a, 0⟩ := by
  unfold rdC at h
  dsimp only at h
  by_cases q0 : (rdN bs s).2.y = 0
  · obtain ⟨a1, a2, a3, a4⟩ := (rwN h8).A s q0
    rw [nbN_len] at a4
    rw [if_pos q0] at h
    by_cases q1 : (rdN bs s).1 < 0
    · rw [if_pos q1] at h; exact absurd h (show ¬ (4 : Int) = 0 by decide)
    · rw [if_neg q1] at h
      by_cases q2 : (bs.length : Int) - (s.p + 8) < (rdN bs s).1
      · rw [if_pos q2] at h; exact absurd h (show ¬ (2 : Int) = 0 by decide)
      · have e : rdC bs s = ((rdN bs s).1, (rdN bs s).2) := by unfold rdC; rw [if_pos q0, if_neg q1, if_neg q2]
        rw [e]
        exact ⟨a1, by show 0 ≤ (rdN bs s).1; omega, by show (rdN bs s).1 ≤ _; omega, a3, a4⟩
  · rw [if_neg q0] at h
    exact absurd h q0
theorem rdC_B (s : RS) (n : Int) (hy : s.y = 0) (h0 : 0 ≤ n) (h1 : n ≤ (bs.length : Int) - (s.p + 8)) (h2 : n ≤ 4194304) (hv : Sat bs s.p (nbN n)) : rdC bs s = (n, ⟨s.p + 8, s.a, 0⟩) := by
  have b := (rwN h8).B s n hy ⟨by omega, by omega⟩ hv
  rw [nbN_len] at b
  unfold rdC
  rw [b]
  show (n, if (0 : Int) = 0 then (if n < 0 then _ else if (bs.length : Int) - (s.p + 8) < n then _ else _) else _) = _
  rw [if_pos rfl, if_neg (by omega), if_neg (by omega)]
omit h8 in
theorem sb_str {t : List Nat} (h : ∀ v ∈ t, v < 256) : sbN (strOfNums (t.map Int.ofNat)) = t := by
  unfold sbN
  rw [strOfNums_data, List.map_map, List.map_map]
  conv => rhs; rw [← List.map_id t]
  exact List.map_congr_left (fun v hv => by simp [UInt8.toNat_ofNat', Nat.mod_eq_of_lt (h v hv)])
omit h8 in
theorem str_sb (s : ByteArray) : strOfNums ((sbN s).map Int.ofNat) = s := by
  unfold sbN strOfNums
  rw [List.map_map, List.map_map]
  apply ByteArray.ext
  apply Array.ext'
  show ((s.data.toList.map _).toArray).toList = _
  rw [List.toList_toArray]
  conv => rhs; rw [← List.map_id s.data.toList]
  exact List.map_congr_left (fun v _ => by simp)
include hn
theorem rwT : Rw bs (rdT bs) tbN (fun _ => True) := by
  refine ⟨fun s h => ?_, fun s v hy ho hv => ?_⟩
  · change (rdT bs s).2.y = 0 at h
    by_cases q : (rdC bs s).2.y = 0
    · obtain ⟨a1, a2, a3, a4, a5⟩ := rdC_A h8 s q
      have e : rdT bs s = (strOfNums (((bs.drop (s.p + 8)).take (rdC bs s).1.toNat).map Int.ofNat), ⟨s.p + 8 + (rdC bs s).1.toNat, s.a, 0⟩) := by unfold rdT; rw [if_pos q, a5]
      obtain ⟨n, en⟩ : ∃ n, (rdC bs s).1 = n := ⟨_, rfl⟩
      rw [en] at a2 a3 a4 e
      obtain ⟨k, rfl⟩ := Int.eq_ofNat_of_zero_le a2
      rw [Int.toNat_natCast] at e
      have lt : ((bs.drop (s.p + 8)).take k).length = k := by rw [List.length_take, List.length_drop]; omega
      have l8 : ∀ v ∈ (bs.drop (s.p + 8)).take k, v < 256 := fun b hb => h8 b (List.mem_of_mem_drop (List.mem_of_mem_take hb))
      have sz : (strOfNums (((bs.drop (s.p + 8)).take k).map Int.ofNat)).size = k := by rw [strOfNums_size, List.length_map, lt]
      rw [e]
      refine ⟨a1, trivial, ?_, ?_⟩
      · show Sat bs s.p (tbN _)
        unfold tbN
        rw [sz, sb_str l8]
        refine a4.app ?_
        rw [nbN_len]
        exact sat_take _ _ _
      · show _ = (⟨s.p + (tbN _).length, s.a, 0⟩ : RS)
        rw [tbN_len, sz, ← Nat.add_assoc]
    · have e : rdT bs s = (ByteArray.empty, (rdC bs s).2) := by unfold rdT; rw [if_neg q]
      rw [e] at h
      exact absurd h q
  · have hl := hv.le (by rw [tbN_len]; omega)
    rw [tbN_len] at hl
    have h1 : Sat bs s.p (nbN (v.size : Int)) := hv.left
    have h2 : Sat bs (s.p + 8) (sbN v) := by have := hv.right; rw [nbN_len] at this; exact this
    have c := rdC_B h8 s (v.size : Int) hy (by omega) (by omega) (by omega) h1
    have t2 := h2.take
    rw [sbN_len] at t2
    unfold rdT
    rw [c]
    show (if (0 : Int) = 0 then _ else _) = _
    rw [if_pos rfl]
    show (strOfNums (((bs.drop (s.p + 8)).take (v.size : Int).toNat).map Int.ofNat), (⟨s.p + 8 + (v.size : Int).toNat, s.a, 0⟩ : RS)) = _
    rw [Int.toNat_natCast, t2, str_sb, tbN_len, ← Nat.add_assoc]
/-- A value's three parts. -/
def OkV (v : Nat × Int × ByteArray) : Prop := v.1 < 256 ∧ 0 ≤ v.2.1 ∧ v.2.1 < 18446744073709551616
theorem rwV : Rw bs (rdV bs) (fun v => vbN v.1 v.2.1 v.2.2) OkV := by
  have q := ((rwB h8).seq ((rwN h8).seq (rwT h8 hn))).map (fun v => (v.1, IntKind.u64.wrap v.2.1, v.2.2)) (fun v => (v.1, wrap64 v.2.1, v.2.2)) (fun v => vbN v.1 v.2.1 v.2.2) OkV
    (fun b hb => by
      obtain ⟨k, n, t⟩ := b
      obtain ⟨h1, h2, h3⟩ := hb
      dsimp only at h1 h2 h3
      refine ⟨?_, ⟨h1, ?_, trivial⟩, ?_⟩
      · show (k, IntKind.u64.wrap (wrap64 n), t) = _
        have : IntKind.u64.wrap (wrap64 n) = n := by rw [u64_wrap]; unfold wrap64; omega
        rw [this]
      · show I64 (wrap64 n); unfold I64 wrap64; omega
      · show [k] ++ (nbN (wrap64 n) ++ tbN t) = vbN k n t
        unfold vbN
        rw [List.append_assoc, show ((k : Int) % 256).toNat = k by omega])
    (fun a ha => by
      obtain ⟨k, n, t⟩ := a
      obtain ⟨h1, h2, _⟩ := ha
      dsimp only at h1 h2
      have e : wrap64 (IntKind.u64.wrap n) = n := by obtain ⟨i1, i2⟩ := h2; rw [u64_wrap]; unfold wrap64; omega
      refine ⟨⟨h1, ?_, ?_⟩, ?_⟩
      · show 0 ≤ IntKind.u64.wrap n; rw [u64_wrap]; omega
      · show IntKind.u64.wrap n < _; rw [u64_wrap]; omega
      · show vbN k (IntKind.u64.wrap n) t = [k] ++ (nbN n ++ tbN t)
        unfold vbN
        rw [e, List.append_assoc, show ((k : Int) % 256).toNat = k by omega])
  exact q
omit h8 hn in
theorem rdKS_y {α : Type} (rd : RS → α × RS) (k : Nat) {s : RS} (h : (rdKS rd k s).y = 0) : s.y = 0 := by
  by_cases q : s.y = 0
  · exact q
  · rw [rdKS_bad rd k q] at h; exact h
omit h8 hn in
theorem rwK_A {α : Type} {rd : RS → α × RS} {e : α → List Nat} {O : α → Prop} (h : Rw bs rd e O) : ∀ (k : Nat) (s : RS), (rdKS rd k s).y = 0 → (rdKL rd k s).length = k ∧ (∀ v ∈ rdKL rd k s, O v) ∧ Sat bs s.p ((rdKL rd k s).flatMap e) ∧ (s.y = 0 → rdKS rd k s = ⟨s.p + ((rdKL rd k s).flatMap e).length, s.a, 0⟩)
  | 0, s, hs => ⟨rfl, fun v hv => (by cases hv), Sat.nil, fun hy => (by cases s; dsimp only at hy; subst hy; rfl)⟩
  | k + 1, s, hs => by
    have hy := rdKS_y rd (k + 1) hs
    have e1 : rdKL rd (k + 1) s = (rd s).1 :: rdKL rd k (rd s).2 := by show (if s.y = 0 then _ else _) = _; rw [if_pos hy]
    have e2 : rdKS rd (k + 1) s = rdKS rd k (rd s).2 := by show (if s.y = 0 then _ else _) = _; rw [if_pos hy]
    rw [e2] at hs
    obtain ⟨a1, a2, a3, a4⟩ := h.A s (rdKS_y rd k hs)
    obtain ⟨b1, b2, b3, b4⟩ := rwK_A h k (rd s).2 hs
    rw [e1, e2]
    refine ⟨by rw [List.length_cons, b1], fun v hv => ?_, ?_, fun _ => ?_⟩
    · rcases List.mem_cons.1 hv with rfl | hv
      · exact a2
      · exact b2 v hv
    · rw [List.flatMap_cons]
      refine a3.app ?_
      rw [show s.p + (e (rd s).1).length = (rd s).2.p by rw [a4]]
      exact b3
    · rw [b4 (by rw [a4]), List.flatMap_cons, List.length_append]
      rw [show (rd s).2.p = s.p + (e (rd s).1).length by rw [a4], show (rd s).2.a = s.a by rw [a4], Nat.add_assoc]
omit h8 hn in
theorem rwK_B {α : Type} {rd : RS → α × RS} {e : α → List Nat} {O : α → Prop} (h : Rw bs rd e O) : ∀ (l : List α) (s : RS), s.y = 0 → (∀ v ∈ l, O v) → Sat bs s.p (l.flatMap e) → rdKL rd l.length s = l ∧ rdKS rd l.length s = ⟨s.p + (l.flatMap e).length, s.a, 0⟩
  | [], s, hy, _, _ => ⟨rfl, (by cases s; dsimp only at hy; subst hy; rfl)⟩
  | a :: l, s, hy, ho, hv => by
    rw [List.flatMap_cons] at hv
    have b := h.B s a hy (ho a (List.mem_cons_self)) hv.left
    obtain ⟨c1, c2⟩ := rwK_B h l ⟨s.p + (e a).length, s.a, 0⟩ rfl (fun v hv => ho v (List.mem_cons_of_mem _ hv)) hv.right
    have e1 : rdKL rd (l.length + 1) s = (rd s).1 :: rdKL rd l.length (rd s).2 := by show (if s.y = 0 then _ else _) = _; rw [if_pos hy]
    have e2 : rdKS rd (l.length + 1) s = rdKS rd l.length (rd s).2 := by show (if s.y = 0 then _ else _) = _; rw [if_pos hy]
    rw [List.length_cons, e1, e2, b]
    refine ⟨by show a :: rdKL rd l.length ⟨s.p + (e a).length, s.a, 0⟩ = _; rw [c1], ?_⟩
    show rdKS rd l.length ⟨s.p + (e a).length, s.a, 0⟩ = _
    rw [c2, List.flatMap_cons, List.length_append, Nat.add_assoc]
omit h8 hn in
theorem flat_ge {α : Type} {e : α → List Nat} (hp : ∀ v, 1 ≤ (e v).length) : ∀ l : List α, l.length ≤ (l.flatMap e).length
  | [] => Nat.le_refl _
  | a :: l => by rw [List.flatMap_cons, List.length_append, List.length_cons]; have := hp a; have := flat_ge hp l; omega
theorem rwL {α : Type} {rd : RS → α × RS} {e : α → List Nat} {O : α → Prop} (h : Rw bs rd e O) (hp : ∀ v, 1 ≤ (e v).length) : Rw bs (rdL rd bs) (lsN e) (fun l => ∀ v ∈ l, O v) := by
  refine ⟨fun s hs => ?_, fun s l hy ho hv => ?_⟩
  · change (rdKS rd (rdC bs s).1.toNat (rdC bs s).2).y = 0 at hs
    obtain ⟨a1, a2, a3, a4, a5⟩ := rdC_A h8 s (rdKS_y rd _ hs)
    obtain ⟨b1, b2, b3, b4⟩ := rwK_A h _ _ hs
    have b4 := b4 (by rw [a5])
    have en : ((rdL rd bs s).1.length : Int) = (rdC bs s).1 := by show ((rdKL rd (rdC bs s).1.toNat (rdC bs s).2).length : Int) = _; rw [b1]; omega
    refine ⟨a1, b2, ?_, ?_⟩
    · unfold lsN
      rw [en]
      refine a4.app ?_
      rw [nbN_len, show s.p + 8 = (rdC bs s).2.p by rw [a5]]
      exact b3
    · show rdKS rd (rdC bs s).1.toNat (rdC bs s).2 = _
      rw [b4]
      unfold lsN
      rw [en, List.length_append, nbN_len, ← Nat.add_assoc]
      show (⟨(rdC bs s).2.p + _, (rdC bs s).2.a, 0⟩ : RS) = _
      rw [show (rdC bs s).2.p = s.p + 8 by rw [a5], show (rdC bs s).2.a = s.a by rw [a5]]
      rfl
  · have hl := hv.le (by unfold lsN; rw [List.length_append, nbN_len]; omega)
    have fl := flat_ge hp l
    unfold lsN at hl
    rw [List.length_append, nbN_len] at hl
    have c := rdC_B h8 s (l.length : Int) hy (by omega) (by omega) (by omega) hv.left
    have h2 : Sat bs (s.p + 8) (l.flatMap e) := by have := hv.right; rw [nbN_len] at this; exact this
    obtain ⟨d1, d2⟩ := rwK_B h l ⟨s.p + 8, s.a, 0⟩ rfl ho h2
    show (rdKL rd (rdC bs s).1.toNat (rdC bs s).2, rdKS rd (rdC bs s).1.toNat (rdC bs s).2) = _
    rw [c]
    show (rdKL rd (l.length : Int).toNat ⟨s.p + 8, s.a, 0⟩, rdKS rd (l.length : Int).toNat ⟨s.p + 8, s.a, 0⟩) = _
    rw [Int.toNat_natCast, d1, d2]
    unfold lsN
    rw [List.length_append, nbN_len, ← Nat.add_assoc]
end
end Go.Proofs.YtdcjngakmkgbmaaGreat
namespace Go.Proofs.YtdcjngakmkgbmaaGreat
set_option linter.unusedVariables false
set_option linter.unusedSimpArgs false
open Go.RowKit
def U8 (k : Int) : Prop := 0 ≤ k ∧ k < 256
def U64 (k : Int) : Prop := 0 ≤ k ∧ k < 18446744073709551616
def GLp (l : LpR) : Prop := I64 l.hd ∧ I64 l.en ∧ I64 l.tm
def GOp (o : OpR) : Prop := I64 o.cd ∧ I64 o.a ∧ I64 o.b ∧ I64 o.c ∧ I64 o.d ∧ I64 o.lo ∧ I64 o.hi ∧ U8 o.vk ∧ U64 o.vb
def GCe (c : CeR) : Prop := U8 c.kd ∧ I64 c.lo ∧ I64 c.hi ∧ I64 c.mx ∧ U8 c.ik ∧ U64 c.ib ∧ U8 c.dr
def GFl (f : FlR) : Prop := I64 f.wh ∧ I64 f.ce ∧ I64 f.ba ∧ I64 f.rg ∧ I64 f.sl ∧ (∀ o ∈ f.os, GOp o) ∧ (∀ l ∈ f.ls, GLp l)
def GJb (j : JbR) : Prop := I64 j.iv ∧ I64 j.sg ∧ I64 j.pr ∧ (∀ o ∈ j.cs, I64 o) ∧ (∀ o ∈ j.bs, I64 o) ∧ I64 j.bd
def GIm (m : ImR) : Prop := (∀ c ∈ m.cs, GCe c) ∧ (∀ f ∈ m.fs, GFl f) ∧ (∀ j ∈ m.js, GJb j)
theorem ns3 (a b c : Int) : nsN [a, b, c] = nbN a ++ (nbN b ++ nbN c) := by simp [nsN]
theorem ns5 (a b c d e : Int) : nsN [a, b, c, d, e] = nbN a ++ (nbN b ++ (nbN c ++ (nbN d ++ nbN e))) := by simp [nsN]
theorem ns7 (a b c d e f g : Int) : nsN [a, b, c, d, e, f, g] = nbN a ++ (nbN b ++ (nbN c ++ (nbN d ++ (nbN e ++ (nbN f ++ nbN g))))) := by simp [nsN]
theorem nat8 {k : Nat} : ((k : Int) % 256).toNat = k % 256 := by omega
section
variable {bs : List Nat} (h8 : ∀ v ∈ bs, v < 256) (hn : bs.length ≤ 4194304)
include h8
theorem rwLp : Rw bs (rdLp bs) lbN GLp := by
  have q := ((rwN h8).seq ((rwN h8).seq (rwN h8))).map (fun v => (⟨v.1, v.2.1, v.2.2⟩ : LpR)) (fun l : LpR => (l.hd, l.en, l.tm)) lbN GLp
    (fun l hl => ⟨rfl, hl, by show nbN l.hd ++ (nbN l.en ++ nbN l.tm) = lbN l; unfold lbN; rw [ns3]⟩)
    (fun a ha => ⟨ha, by show nsN [_, _, _] = _; rw [ns3]⟩)
  exact q
include hn
theorem rwOp : Rw bs (rdOp bs) obN GOp := by
  have q := ((rwN h8).seq ((rwN h8).seq ((rwN h8).seq ((rwN h8).seq ((rwN h8).seq ((rwN h8).seq ((rwN h8).seq (rwV h8 hn)))))))).map
    (fun v => (⟨v.1, v.2.1, v.2.2.1, v.2.2.2.1, v.2.2.2.2.1, v.2.2.2.2.2.1, v.2.2.2.2.2.2.1, v.2.2.2.2.2.2.2.1, v.2.2.2.2.2.2.2.2.1, v.2.2.2.2.2.2.2.2.2⟩ : OpR))
    (fun o : OpR => (o.cd, o.a, o.b, o.c, o.d, o.lo, o.hi, (o.vk.toNat, o.vb, o.vs))) obN GOp
    (fun o ho => by
      obtain ⟨h1, h2, h3, h4, h5, h6, h7, h8, h9⟩ := ho
      have e : ((o.vk.toNat : Nat) : Int) = o.vk := by obtain ⟨z, _⟩ := h8; omega
      refine ⟨?_, ⟨h1, h2, h3, h4, h5, h6, h7, ?_, h9.1, h9.2⟩, ?_⟩
      · show (⟨o.cd, o.a, o.b, o.c, o.d, o.lo, o.hi, ((o.vk.toNat : Nat) : Int), o.vb, o.vs⟩ : OpR) = o
        rw [e]
      · show o.vk.toNat < 256; obtain ⟨_, z⟩ := h8; omega
      · show nbN o.cd ++ (nbN o.a ++ (nbN o.b ++ (nbN o.c ++ (nbN o.d ++ (nbN o.lo ++ (nbN o.hi ++ vbN ((o.vk.toNat : Nat) : Int) o.vb o.vs)))))) = obN o
        unfold obN
        rw [e, ns7]
        simp only [List.append_assoc])
    (fun a ha => by
      obtain ⟨h1, h2, h3, h4, h5, h6, h7, h8, h9, h10⟩ := ha
      refine ⟨⟨h1, h2, h3, h4, h5, h6, h7, ⟨by show (0 : Int) ≤ (a.2.2.2.2.2.2.2.1 : Nat); omega, by show ((a.2.2.2.2.2.2.2.1 : Nat) : Int) < 256; omega⟩, ⟨h9, h10⟩⟩, ?_⟩
      show nsN [_, _, _, _, _, _, _] ++ _ = _
      rw [ns7]
      simp only [List.append_assoc])
  exact q
theorem rwCe : Rw bs (rdCe bs) cbN GCe := by
  have q := ((rwB h8).seq ((rwF h8).seq ((rwN h8).seq ((rwN h8).seq ((rwN h8).seq ((rwV h8 hn).seq ((rwF h8).seq ((rwB h8).seq (rwT h8 hn))))))))).map
    (fun v => (⟨v.1, v.2.1, v.2.2.1, v.2.2.2.1, v.2.2.2.2.1, v.2.2.2.2.2.1.1, v.2.2.2.2.2.1.2.1, v.2.2.2.2.2.1.2.2, v.2.2.2.2.2.2.1, v.2.2.2.2.2.2.2.1, v.2.2.2.2.2.2.2.2⟩ : CeR))
    (fun c : CeR => (c.kd.toNat, c.sb, c.lo, c.hi, c.mx, (c.ik.toNat, c.ib, c.is), c.kp, c.dr.toNat, c.ad)) cbN GCe
    (fun c hc => by
      obtain ⟨h1, h2, h3, h4, h5, h6, h7⟩ := hc
      have e1 : ((c.kd.toNat : Nat) : Int) = c.kd := by obtain ⟨z, _⟩ := h1; omega
      have e2 : ((c.ik.toNat : Nat) : Int) = c.ik := by obtain ⟨z, _⟩ := h5; omega
      have e3 : ((c.dr.toNat : Nat) : Int) = c.dr := by obtain ⟨z, _⟩ := h7; omega
      refine ⟨?_, ⟨?_, trivial, h2, h3, h4, ⟨?_, h6.1, h6.2⟩, trivial, ?_, trivial⟩, ?_⟩
      · show (⟨((c.kd.toNat : Nat) : Int), c.sb, c.lo, c.hi, c.mx, ((c.ik.toNat : Nat) : Int), c.ib, c.is, c.kp, ((c.dr.toNat : Nat) : Int), c.ad⟩ : CeR) = c
        rw [e1, e2, e3]
      · show c.kd.toNat < 256; obtain ⟨_, z⟩ := h1; omega
      · show c.ik.toNat < 256; obtain ⟨_, z⟩ := h5; omega
      · show c.dr.toNat < 256; obtain ⟨_, z⟩ := h7; omega
      · show [c.kd.toNat] ++ ([bbN c.sb] ++ (nbN c.lo ++ (nbN c.hi ++ (nbN c.mx ++ (vbN ((c.ik.toNat : Nat) : Int) c.ib c.is ++ ([bbN c.kp] ++ ([c.dr.toNat] ++ tbN c.ad))))))) = cbN c
        unfold cbN
        rw [e2, ns3, show (c.kd % 256).toNat = c.kd.toNat by obtain ⟨_, _⟩ := h1; omega, show (c.dr % 256).toNat = c.dr.toNat by obtain ⟨_, _⟩ := h7; omega]
        simp only [List.append_assoc])
    (fun a ha => by
      obtain ⟨h1, h2, h3, h4, h5, ⟨h6, h7, h8⟩, h9, h10, h11⟩ := ha
      refine ⟨⟨⟨by show (0 : Int) ≤ (a.1 : Nat); omega, by show ((a.1 : Nat) : Int) < 256; omega⟩, h3, h4, h5, ⟨by show (0 : Int) ≤ (a.2.2.2.2.2.1.1 : Nat); omega, by show ((a.2.2.2.2.2.1.1 : Nat) : Int) < 256; omega⟩, ⟨h7, h8⟩, ⟨by show (0 : Int) ≤ (a.2.2.2.2.2.2.2.1 : Nat); omega, by show ((a.2.2.2.2.2.2.2.1 : Nat) : Int) < 256; omega⟩⟩, ?_⟩
      show [((a.1 : Nat) % (256 : Int)).toNat] ++ [bbN _] ++ nsN [_, _, _] ++ vbN _ _ _ ++ [bbN _] ++ [((a.2.2.2.2.2.2.2.1 : Nat) % (256 : Int)).toNat] ++ tbN _ = _
      rw [ns3, nat8, nat8, Nat.mod_eq_of_lt h1, Nat.mod_eq_of_lt h10]
      simp only [List.append_assoc])
  exact q
theorem rwFl : Rw bs (rdFl bs) flbN GFl := by
  have q := ((rwT h8 hn).seq ((rwN h8).seq ((rwN h8).seq ((rwN h8).seq ((rwN h8).seq ((rwN h8).seq ((rwL h8 hn (rwOp h8 hn) (fun v => by rw [obN_len]; omega)).seq (rwL h8 hn (rwLp h8) (fun v => by rw [lbN_len]; omega))))))))).map
    (fun v => (⟨v.1, v.2.1, v.2.2.1, v.2.2.2.1, v.2.2.2.2.1, v.2.2.2.2.2.1, v.2.2.2.2.2.2.1, v.2.2.2.2.2.2.2⟩ : FlR))
    (fun f : FlR => (f.nm, f.wh, f.ce, f.ba, f.rg, f.sl, f.os, f.ls)) flbN GFl
    (fun f hf => by
      obtain ⟨h1, h2, h3, h4, h5, h6, h7⟩ := hf
      refine ⟨rfl, ⟨trivial, h1, h2, h3, h4, h5, h6, h7⟩, ?_⟩
      show tbN f.nm ++ (nbN f.wh ++ (nbN f.ce ++ (nbN f.ba ++ (nbN f.rg ++ (nbN f.sl ++ (lsN obN f.os ++ lsN lbN f.ls)))))) = flbN f
      unfold flbN
      rw [ns5]
      simp only [List.append_assoc])
    (fun a ha => by
      obtain ⟨_, h1, h2, h3, h4, h5, h6, h7⟩ := ha
      refine ⟨⟨h1, h2, h3, h4, h5, h6, h7⟩, ?_⟩
      show tbN _ ++ nsN [_, _, _, _, _] ++ lsN obN _ ++ lsN lbN _ = _
      rw [ns5]
      simp only [List.append_assoc])
  exact q
theorem rwJb : Rw bs (rdJb bs) jbN GJb := by
  have q := ((rwT h8 hn).seq ((rwN h8).seq ((rwN h8).seq ((rwN h8).seq ((rwL h8 hn (rwN h8) (fun v => by rw [nbN_len]; omega)).seq ((rwL h8 hn (rwN h8) (fun v => by rw [nbN_len]; omega)).seq (rwN h8))))))).map
    (fun v => (⟨v.1, v.2.1, v.2.2.1, v.2.2.2.1, v.2.2.2.2.1, v.2.2.2.2.2.1, v.2.2.2.2.2.2⟩ : JbR))
    (fun j : JbR => (j.nm, j.iv, j.sg, j.pr, j.cs, j.bs, j.bd)) jbN GJb
    (fun j hj => by
      obtain ⟨h1, h2, h3, h4, h5, h6⟩ := hj
      refine ⟨rfl, ⟨trivial, h1, h2, h3, h4, h5, h6⟩, ?_⟩
      show tbN j.nm ++ (nbN j.iv ++ (nbN j.sg ++ (nbN j.pr ++ (lsN nbN j.cs ++ (lsN nbN j.bs ++ nbN j.bd))))) = jbN j
      unfold jbN
      rw [ns3]
      simp only [List.append_assoc])
    (fun a ha => by
      obtain ⟨_, h1, h2, h3, h4, h5, h6⟩ := ha
      refine ⟨⟨h1, h2, h3, h4, h5, h6⟩, ?_⟩
      show tbN _ ++ nsN [_, _, _] ++ lsN nbN _ ++ lsN nbN _ ++ nbN _ = _
      rw [ns3]
      simp only [List.append_assoc])
  exact q
/-- What stands behind an image's first four bytes. -/
def imrN (m : ImR) : List Nat := tbN m.nm ++ lsN cbN m.cs ++ lsN flbN m.fs ++ lsN jbN m.js
theorem rwIm : Rw bs (rdIm bs) imrN GIm := by
  have q := ((rwT h8 hn).seq ((rwL h8 hn (rwCe h8 hn) (fun v => by rw [cbN_len]; omega)).seq ((rwL h8 hn (rwFl h8 hn) (fun v => by unfold flbN; rw [List.length_append, List.length_append, List.length_append, tbN_len]; omega)).seq (rwL h8 hn (rwJb h8 hn) (fun v => by unfold jbN; rw [List.length_append, nbN_len]; omega))))).map
    (fun v => (⟨v.1, v.2.1, v.2.2.1, v.2.2.2⟩ : ImR)) (fun m : ImR => (m.nm, m.cs, m.fs, m.js)) imrN GIm
    (fun m hm => by
      obtain ⟨h1, h2, h3⟩ := hm
      refine ⟨rfl, ⟨trivial, h1, h2, h3⟩, ?_⟩
      show tbN m.nm ++ (lsN cbN m.cs ++ (lsN flbN m.fs ++ lsN jbN m.js)) = imrN m
      unfold imrN
      simp only [List.append_assoc])
    (fun a ha => by
      obtain ⟨_, h1, h2, h3⟩ := ha
      refine ⟨⟨h1, h2, h3⟩, ?_⟩
      show tbN _ ++ lsN cbN _ ++ lsN flbN _ ++ lsN jbN _ = _
      simp only [List.append_assoc])
  exact q
end
theorem imb_r (m : ImR) : imbN m = [114, 108, 121, 1] ++ imrN m := by
  unfold imbN imrN
  rw [show sbN ⟨#[114, 108, 121, 1]⟩ = [114, 108, 121, 1] by decide]
  simp only [List.append_assoc]
end Go.Proofs.YtdcjngakmkgbmaaGreat
namespace Go.Proofs.YtdcjngakmkgbmaaGreat
set_option linter.unusedVariables false
open Go.RowKit
/-- How an image's bytes begin. -/
def magN (k : Nat) : Nat := [114, 108, 121, 1].getD k 0
/-- The first byte of the beginning that is another one. -/
def fm (l : List Nat) : Option Nat := if 0 < l.length ∧ l.getD 0 0 ≠ 114 then some 0 else if 1 < l.length ∧ l.getD 1 0 ≠ 108 then some 1 else if 2 < l.length ∧ l.getD 2 0 ≠ 121 then some 2 else if 3 < l.length ∧ l.getD 3 0 ≠ 1 then some 3 else none
def frO (l : List Nat) : Int × Int := if 4194304 < l.length then (0, 4) else match fm l with
  | some i => (i, 200)
  | none => if l.length < 8 then (l.length, 2) else if cr4N (crcF (l.take (l.length - 4))) = l.drop (l.length - 4) then (0, 0) else (l.length - 4, 201)
theorem fm_at {l : List Nat} {k : Nat} (h4 : k < 4) (hk : k < l.length) (hp : ∀ j, j < k → l.getD j 0 = magN j) (hb : l.getD k 0 ≠ magN k) : fm l = some k := by
  unfold fm
  have h0 := hp 0
  have h1 := hp 1
  have h2 := hp 2
  match k, h4 with
  | 0, _ => rw [if_pos ⟨hk, hb⟩]
  | 1, _ => rw [if_neg (fun q => q.2 (h0 (by omega))), if_pos ⟨hk, hb⟩]
  | 2, _ => rw [if_neg (fun q => q.2 (h0 (by omega))), if_neg (fun q => q.2 (h1 (by omega))), if_pos ⟨hk, hb⟩]
  | 3, _ => rw [if_neg (fun q => q.2 (h0 (by omega))), if_neg (fun q => q.2 (h1 (by omega))), if_neg (fun q => q.2 (h2 (by omega))), if_pos ⟨hk, hb⟩]
theorem fm_no {l : List Nat} (hp : ∀ j, j < 4 → j < l.length → l.getD j 0 = magN j) : fm l = none := by
  unfold fm
  rw [if_neg (fun q => q.2 (hp 0 (by omega) q.1)), if_neg (fun q => q.2 (hp 1 (by omega) q.1)), if_neg (fun q => q.2 (hp 2 (by omega) q.1)), if_neg (fun q => q.2 (hp 3 (by omega) q.1))]
/-- Bytes of a slice. -/
def BySl (x : Option Addr) (l : List Nat) (w : World) : Prop := ∀ (k : Nat) b, l[k]? = some b → ∃ kb o, x = some ⟨kb, o, none⟩ ∧ kb < w.heap.size ∧ w.cell? ⟨kb, o + k, none⟩ = some (.int .u8 b)
theorem frO_bad {l : List Nat} {k : Nat} (hl : l.length ≤ 4194304) (h : fm l = some k) : frO l = ((k : Int), 200) := by
  unfold frO
  rw [if_neg (by omega), h]
theorem frO_short {l : List Nat} (hl : l.length < 8) (h : fm l = none) : frO l = ((l.length : Int), 2) := by
  unfold frO
  rw [if_neg (by omega), h]
  show (if l.length < 8 then _ else _) = _
  rw [if_pos hl]
theorem bl_drewN {w V : World} (h : Below w.heap.size w V) (k : Nat) : Below w.heap.size w (V.drewN k) := h.trans ⟨rfl, rfl, rfl, Nat.le_refl _, fun _ _ => rfl⟩
theorem drop4 {l : List Nat} {E a b c d : Nat} (h : l.length = E + 4) (h0 : l[E]? = some a) (h1 : l[E + 1]? = some b) (h2 : l[E + 2]? = some c) (h3 : l[E + 3]? = some d) : l.drop E = [a, b, c, d] := by
  apply List.ext_getElem?
  intro i
  rw [List.getElem?_drop]
  match i with
  | 0 => simpa using h0
  | 1 => simpa using h1
  | 2 => simpa using h2
  | 3 => simpa using h3
  | k + 4 => rw [List.getElem?_eq_none (by omega)]; rfl
set_option maxRecDepth 20000 in
set_option maxHeartbeats 8000000 in
theorem frameX (x : Option Addr) (c : Nat) (l : List Nat) (w : World) (h8 : ∀ b ∈ l, b < 256) (hx : BySl x l w) (hc : l.length ≤ c) (hn : l.length ≤ 1099511627776) :
    Calls Tryz.prog 13 #[.slice x l.length c] w fun e w' => e = .returned (.tuple #[.int .i64 (frO l).1, .int .i64 (frO l).2]) ∧ Below w.heap.size w w' := by
  have HX : Hid (BySl x l w) := hx
  have HC : Hid (l.length ≤ c) := hc
  have HN : Hid (l.length ≤ 1099511627776) := hn
  have H8 : Hid (∀ b ∈ l, b < 256) := h8
  clear hx hc hn h8
  by_cases hb : 4194304 < l.length
  · have hb' : (4194304 : Int) < l.length := by omega
    have e : frO l = (0, 4) := by unfold frO; rw [if_pos hb]
    rw [e]
    clear hb e
    go_enter Tryz.func13, Tryz.ntmps13
    go_wp2
    go_ret2
    exact ⟨rfl, Below.refl _ _⟩
  · have hb' : ¬ (4194304 : Int) < l.length := by omega
    have LN : Hid (l.length ≤ 4194304) := by show _ ≤ _; omega
    obtain ⟨u, eu⟩ : ∃ u, frO l = u := ⟨_, rfl⟩
    rw [eu]
    have RE : Hid (frO l = u) := eu
    clear hb eu
    by_cases h4 : (l.length : Int) ≤ 4
    · have h5 : l.length ≤ 4 := by omega
      go_enter Tryz.func13, Tryz.ntmps13
      go_upto_region 3 with fail
      go_wp2
      go_loopw [4, 12] (fun a i wr => ∃ k : Nat, i = .int .i64 k ∧ k ≤ l.length ∧ (∀ j, j < k → l.getD j 0 = magN j) ∧ Below w.heap.size w wr) (fun _ i _ => l.length - (intOf i).toNat)
      case atStart => exact ⟨0, rfl, Nat.zero_le _, fun j hj => absurd hj (Nat.not_lt_zero _), Below.refl _ _⟩
      case round =>
        obtain ⟨k, rfl, hkM, hE, hW⟩ := hrel
        by_cases hk : k < l.length
        · have h44 : k = 0 ∨ k = 1 ∨ k = 2 ∨ k = 3 := by omega
          have hkl : k < l.length := by omega
          obtain ⟨b, eb⟩ : ∃ b, l.getD k 0 = b := ⟨_, rfl⟩
          have hb : l[k]? = some b := by rw [← eb, List.getD_eq_getElem?_getD, List.getElem?_eq_getElem hkl]; rfl
          obtain ⟨kb, o, hx, hk1, hk2⟩ := HX.out k _ hb
          subst hx
          have v0 := (hW.cell hk1).trans hk2
          have hb8 := H8.out _ (List.mem_of_getElem? hb)
          have BW : Hid (Below w.heap.size w wr) := hW
          have EQ : Hid (∀ j, j < k → l.getD j 0 = magN j) := hE
          have GD : Hid (l.getD k 0 = b ∧ k < l.length ∧ k < l.length) := ⟨eb, hkl, hk⟩
          clear hW hE hk1 hk2 hb eb hkM hk
          rcases h44 with h | h | h | h
          · subst h
            have kM : (((0 : Nat) : Int)) < l.length := by have := GD.out; omega
            have kn : (((0 : Nat) : Int)) < l.length := by omega
            try rw [Nat.add_zero] at v0
            clear hkl
            by_cases q : b = 114
            · subst q
              go_upto_region 6 with fail
              go_quiet (fail)
              obtain ⟨W, eW⟩ : ∃ W, W = wr.drewN nq := ⟨_, rfl⟩
              rw [← eW]
              have B2 : Hid (Below w.heap.size w W) := by rw [eW]; exact bl_drewN BW.out _
              clear eW v0
              go_wp2
              exact ⟨⟨0 + 1, rfl, by have := GD.out; omega, fun j hj => by rcases Nat.lt_succ_iff_lt_or_eq.1 hj with z | z; exact EQ.out j z; subst z; exact GD.out.1, B2.out⟩, by have := GD.out; show l.length - (((0 : Nat) : Int) + 1).toNat < l.length - (((0 : Nat) : Int)).toNat; omega⟩
            · have q' : ((b : Int) == 114) = false := by rw [beq_eq_false_iff_ne]; omega
              have q2 : ¬ (b : Int) = 114 := by omega
              have q3 : ((b : Int) != 114) = true := by rw [bne_iff_ne]; omega
              have q4 : ¬ b = 114 := q
              have U : Hid (u = (((0 : Nat) : Int), 200)) := by
                have z := frO_bad LN.out (fm_at (k := 0) (by omega) GD.out.2.1 EQ.out (by rw [GD.out.1]; exact q))
                show _ = _
                rw [← RE.out]; exact z
              clear q
              go_upto_region 6 with fail
              go_quiet (fail)
              obtain ⟨W, eW⟩ : ∃ W, W = wr.drewN nq := ⟨_, rfl⟩
              rw [← eW]
              have B2 : Hid (Below w.heap.size w W) := by rw [eW]; exact bl_drewN BW.out _
              clear eW v0
              go_wp2
              all_goals first
                | (rename_i hh; exact absurd (show ((b : Int) != 114) = false from hh) (by rw [q3]; decide))
                | (go_ret2; exact ⟨by rw [U.out]; rfl, B2.out⟩)
          · subst h
            have kM : (((1 : Nat) : Int)) < l.length := by have := GD.out; omega
            have kn : (((1 : Nat) : Int)) < l.length := by omega
            try rw [Nat.add_zero] at v0
            clear hkl
            by_cases q : b = 108
            · subst q
              go_upto_region 6 with fail
              go_quiet (fail)
              obtain ⟨W, eW⟩ : ∃ W, W = wr.drewN nq := ⟨_, rfl⟩
              rw [← eW]
              have B2 : Hid (Below w.heap.size w W) := by rw [eW]; exact bl_drewN BW.out _
              clear eW v0
              go_wp2
              exact ⟨⟨1 + 1, rfl, by have := GD.out; omega, fun j hj => by rcases Nat.lt_succ_iff_lt_or_eq.1 hj with z | z; exact EQ.out j z; subst z; exact GD.out.1, B2.out⟩, by have := GD.out; show l.length - (((1 : Nat) : Int) + 1).toNat < l.length - (((1 : Nat) : Int)).toNat; omega⟩
            · have q' : ((b : Int) == 108) = false := by rw [beq_eq_false_iff_ne]; omega
              have q2 : ¬ (b : Int) = 108 := by omega
              have q3 : ((b : Int) != 108) = true := by rw [bne_iff_ne]; omega
              have q4 : ¬ b = 108 := q
              have U : Hid (u = (((1 : Nat) : Int), 200)) := by
                have z := frO_bad LN.out (fm_at (k := 1) (by omega) GD.out.2.1 EQ.out (by rw [GD.out.1]; exact q))
                show _ = _
                rw [← RE.out]; exact z
              clear q
              go_upto_region 6 with fail
              go_quiet (fail)
              obtain ⟨W, eW⟩ : ∃ W, W = wr.drewN nq := ⟨_, rfl⟩
              rw [← eW]
              have B2 : Hid (Below w.heap.size w W) := by rw [eW]; exact bl_drewN BW.out _
              clear eW v0
              go_wp2
              all_goals first
                | (rename_i hh; exact absurd (show ((b : Int) != 108) = false from hh) (by rw [q3]; decide))
                | (go_ret2; exact ⟨by rw [U.out]; rfl, B2.out⟩)
          · subst h
            have kM : (((2 : Nat) : Int)) < l.length := by have := GD.out; omega
            have kn : (((2 : Nat) : Int)) < l.length := by omega
            try rw [Nat.add_zero] at v0
            clear hkl
            by_cases q : b = 121
            · subst q
              go_upto_region 6 with fail
              go_quiet (fail)
              obtain ⟨W, eW⟩ : ∃ W, W = wr.drewN nq := ⟨_, rfl⟩
              rw [← eW]
              have B2 : Hid (Below w.heap.size w W) := by rw [eW]; exact bl_drewN BW.out _
              clear eW v0
              go_wp2
              exact ⟨⟨2 + 1, rfl, by have := GD.out; omega, fun j hj => by rcases Nat.lt_succ_iff_lt_or_eq.1 hj with z | z; exact EQ.out j z; subst z; exact GD.out.1, B2.out⟩, by have := GD.out; show l.length - (((2 : Nat) : Int) + 1).toNat < l.length - (((2 : Nat) : Int)).toNat; omega⟩
            · have q' : ((b : Int) == 121) = false := by rw [beq_eq_false_iff_ne]; omega
              have q2 : ¬ (b : Int) = 121 := by omega
              have q3 : ((b : Int) != 121) = true := by rw [bne_iff_ne]; omega
              have q4 : ¬ b = 121 := q
              have U : Hid (u = (((2 : Nat) : Int), 200)) := by
                have z := frO_bad LN.out (fm_at (k := 2) (by omega) GD.out.2.1 EQ.out (by rw [GD.out.1]; exact q))
                show _ = _
                rw [← RE.out]; exact z
              clear q
              go_upto_region 6 with fail
              go_quiet (fail)
              obtain ⟨W, eW⟩ : ∃ W, W = wr.drewN nq := ⟨_, rfl⟩
              rw [← eW]
              have B2 : Hid (Below w.heap.size w W) := by rw [eW]; exact bl_drewN BW.out _
              clear eW v0
              go_wp2
              all_goals first
                | (rename_i hh; exact absurd (show ((b : Int) != 121) = false from hh) (by rw [q3]; decide))
                | (go_ret2; exact ⟨by rw [U.out]; rfl, B2.out⟩)
          · subst h
            have kM : (((3 : Nat) : Int)) < l.length := by have := GD.out; omega
            have kn : (((3 : Nat) : Int)) < l.length := by omega
            try rw [Nat.add_zero] at v0
            clear hkl
            by_cases q : b = 1
            · subst q
              go_upto_region 6 with fail
              go_quiet (fail)
              obtain ⟨W, eW⟩ : ∃ W, W = wr.drewN nq := ⟨_, rfl⟩
              rw [← eW]
              have B2 : Hid (Below w.heap.size w W) := by rw [eW]; exact bl_drewN BW.out _
              clear eW v0
              go_wp2
              exact ⟨⟨3 + 1, rfl, by have := GD.out; omega, fun j hj => by rcases Nat.lt_succ_iff_lt_or_eq.1 hj with z | z; exact EQ.out j z; subst z; exact GD.out.1, B2.out⟩, by have := GD.out; show l.length - (((3 : Nat) : Int) + 1).toNat < l.length - (((3 : Nat) : Int)).toNat; omega⟩
            · have q' : ((b : Int) == 1) = false := by rw [beq_eq_false_iff_ne]; omega
              have q2 : ¬ (b : Int) = 1 := by omega
              have q3 : ((b : Int) != 1) = true := by rw [bne_iff_ne]; omega
              have q4 : ¬ b = 1 := q
              have U : Hid (u = (((3 : Nat) : Int), 200)) := by
                have z := frO_bad LN.out (fm_at (k := 3) (by omega) GD.out.2.1 EQ.out (by rw [GD.out.1]; exact q))
                show _ = _
                rw [← RE.out]; exact z
              clear q
              go_upto_region 6 with fail
              go_quiet (fail)
              obtain ⟨W, eW⟩ : ∃ W, W = wr.drewN nq := ⟨_, rfl⟩
              rw [← eW]
              have B2 : Hid (Below w.heap.size w W) := by rw [eW]; exact bl_drewN BW.out _
              clear eW v0
              go_wp2
              all_goals first
                | (rename_i hh; exact absurd (show ((b : Int) != 1) = false from hh) (by rw [q3]; decide))
                | (go_ret2; exact ⟨by rw [U.out]; rfl, B2.out⟩)
        · have ek : k = l.length := by omega
          subst ek
          have BW : Hid (Below w.heap.size w wr) := hW
          have EQ : Hid (∀ j, j < l.length → l.getD j 0 = magN j) := hE
          clear hk hkM hW hE
          have U : Hid (u = ((l.length : Int), 2)) := by
            have z := frO_short (l := l) (by omega) (fm_no (fun j h1 h2 => EQ.out j h2))
            show _ = _
            rw [← RE.out]; exact z
          have e1 : wrap64 ((l.length : Int) - 4) = (l.length : Int) - 4 := by have := LN.out; unfold wrap64; omega
          have e2 : (l.length : Int) - 4 < 4 := by omega
          go_wp2
          go_ret2
          exact ⟨by rw [U.out]; rfl, BW.out⟩
    · have h5 : ¬ l.length ≤ 4 := by omega
      go_enter Tryz.func13, Tryz.ntmps13
      go_upto_region 3 with fail
      go_wp2
      go_loopw [4, 12] (fun a i wr => ∃ k : Nat, i = .int .i64 k ∧ k ≤ 4 ∧ (∀ j, j < k → l.getD j 0 = magN j) ∧ Below w.heap.size w wr) (fun _ i _ => 4 - (intOf i).toNat)
      case atStart => exact ⟨0, rfl, Nat.zero_le _, fun j hj => absurd hj (Nat.not_lt_zero _), Below.refl _ _⟩
      case round =>
        obtain ⟨k, rfl, hkM, hE, hW⟩ := hrel
        by_cases hk : k < 4
        · have h44 : k = 0 ∨ k = 1 ∨ k = 2 ∨ k = 3 := by omega
          have hkl : k < l.length := by omega
          obtain ⟨b, eb⟩ : ∃ b, l.getD k 0 = b := ⟨_, rfl⟩
          have hb : l[k]? = some b := by rw [← eb, List.getD_eq_getElem?_getD, List.getElem?_eq_getElem hkl]; rfl
          obtain ⟨kb, o, hx, hk1, hk2⟩ := HX.out k _ hb
          subst hx
          have v0 := (hW.cell hk1).trans hk2
          have hb8 := H8.out _ (List.mem_of_getElem? hb)
          have BW : Hid (Below w.heap.size w wr) := hW
          have EQ : Hid (∀ j, j < k → l.getD j 0 = magN j) := hE
          have GD : Hid (l.getD k 0 = b ∧ k < l.length ∧ k < 4) := ⟨eb, hkl, hk⟩
          clear hW hE hk1 hk2 hb eb hkM hk
          rcases h44 with h | h | h | h
          · subst h
            have kM : (((0 : Nat) : Int)) < 4 := by have := GD.out; omega
            have kn : (((0 : Nat) : Int)) < l.length := by omega
            try rw [Nat.add_zero] at v0
            clear hkl
            by_cases q : b = 114
            · subst q
              go_upto_region 6 with fail
              go_quiet (fail)
              obtain ⟨W, eW⟩ : ∃ W, W = wr.drewN nq := ⟨_, rfl⟩
              rw [← eW]
              have B2 : Hid (Below w.heap.size w W) := by rw [eW]; exact bl_drewN BW.out _
              clear eW v0
              go_wp2
              exact ⟨⟨0 + 1, rfl, by have := GD.out; omega, fun j hj => by rcases Nat.lt_succ_iff_lt_or_eq.1 hj with z | z; exact EQ.out j z; subst z; exact GD.out.1, B2.out⟩, by have := GD.out; show 4 - (((0 : Nat) : Int) + 1).toNat < 4 - (((0 : Nat) : Int)).toNat; omega⟩
            · have q' : ((b : Int) == 114) = false := by rw [beq_eq_false_iff_ne]; omega
              have q2 : ¬ (b : Int) = 114 := by omega
              have q3 : ((b : Int) != 114) = true := by rw [bne_iff_ne]; omega
              have q4 : ¬ b = 114 := q
              have U : Hid (u = (((0 : Nat) : Int), 200)) := by
                have z := frO_bad LN.out (fm_at (k := 0) (by omega) GD.out.2.1 EQ.out (by rw [GD.out.1]; exact q))
                show _ = _
                rw [← RE.out]; exact z
              clear q
              go_upto_region 6 with fail
              go_quiet (fail)
              obtain ⟨W, eW⟩ : ∃ W, W = wr.drewN nq := ⟨_, rfl⟩
              rw [← eW]
              have B2 : Hid (Below w.heap.size w W) := by rw [eW]; exact bl_drewN BW.out _
              clear eW v0
              go_wp2
              all_goals first
                | (rename_i hh; exact absurd (show ((b : Int) != 114) = false from hh) (by rw [q3]; decide))
                | (go_ret2; exact ⟨by rw [U.out]; rfl, B2.out⟩)
          · subst h
            have kM : (((1 : Nat) : Int)) < 4 := by have := GD.out; omega
            have kn : (((1 : Nat) : Int)) < l.length := by omega
            try rw [Nat.add_zero] at v0
            clear hkl
            by_cases q : b = 108
            · subst q
              go_upto_region 6 with fail
              go_quiet (fail)
              obtain ⟨W, eW⟩ : ∃ W, W = wr.drewN nq := ⟨_, rfl⟩
              rw [← eW]
              have B2 : Hid (Below w.heap.size w W) := by rw [eW]; exact bl_drewN BW.out _
              clear eW v0
              go_wp2
              exact ⟨⟨1 + 1, rfl, by have := GD.out; omega, fun j hj => by rcases Nat.lt_succ_iff_lt_or_eq.1 hj with z | z; exact EQ.out j z; subst z; exact GD.out.1, B2.out⟩, by have := GD.out; show 4 - (((1 : Nat) : Int) + 1).toNat < 4 - (((1 : Nat) : Int)).toNat; omega⟩
            · have q' : ((b : Int) == 108) = false := by rw [beq_eq_false_iff_ne]; omega
              have q2 : ¬ (b : Int) = 108 := by omega
              have q3 : ((b : Int) != 108) = true := by rw [bne_iff_ne]; omega
              have q4 : ¬ b = 108 := q
              have U : Hid (u = (((1 : Nat) : Int), 200)) := by
                have z := frO_bad LN.out (fm_at (k := 1) (by omega) GD.out.2.1 EQ.out (by rw [GD.out.1]; exact q))
                show _ = _
                rw [← RE.out]; exact z
              clear q
              go_upto_region 6 with fail
              go_quiet (fail)
              obtain ⟨W, eW⟩ : ∃ W, W = wr.drewN nq := ⟨_, rfl⟩
              rw [← eW]
              have B2 : Hid (Below w.heap.size w W) := by rw [eW]; exact bl_drewN BW.out _
              clear eW v0
              go_wp2
              all_goals first
                | (rename_i hh; exact absurd (show ((b : Int) != 108) = false from hh) (by rw [q3]; decide))
                | (go_ret2; exact ⟨by rw [U.out]; rfl, B2.out⟩)
          · subst h
            have kM : (((2 : Nat) : Int)) < 4 := by have := GD.out; omega
            have kn : (((2 : Nat) : Int)) < l.length := by omega
            try rw [Nat.add_zero] at v0
            clear hkl
            by_cases q : b = 121
            · subst q
              go_upto_region 6 with fail
              go_quiet (fail)
              obtain ⟨W, eW⟩ : ∃ W, W = wr.drewN nq := ⟨_, rfl⟩
              rw [← eW]
              have B2 : Hid (Below w.heap.size w W) := by rw [eW]; exact bl_drewN BW.out _
              clear eW v0
              go_wp2
              exact ⟨⟨2 + 1, rfl, by have := GD.out; omega, fun j hj => by rcases Nat.lt_succ_iff_lt_or_eq.1 hj with z | z; exact EQ.out j z; subst z; exact GD.out.1, B2.out⟩, by have := GD.out; show 4 - (((2 : Nat) : Int) + 1).toNat < 4 - (((2 : Nat) : Int)).toNat; omega⟩
            · have q' : ((b : Int) == 121) = false := by rw [beq_eq_false_iff_ne]; omega
              have q2 : ¬ (b : Int) = 121 := by omega
              have q3 : ((b : Int) != 121) = true := by rw [bne_iff_ne]; omega
              have q4 : ¬ b = 121 := q
              have U : Hid (u = (((2 : Nat) : Int), 200)) := by
                have z := frO_bad LN.out (fm_at (k := 2) (by omega) GD.out.2.1 EQ.out (by rw [GD.out.1]; exact q))
                show _ = _
                rw [← RE.out]; exact z
              clear q
              go_upto_region 6 with fail
              go_quiet (fail)
              obtain ⟨W, eW⟩ : ∃ W, W = wr.drewN nq := ⟨_, rfl⟩
              rw [← eW]
              have B2 : Hid (Below w.heap.size w W) := by rw [eW]; exact bl_drewN BW.out _
              clear eW v0
              go_wp2
              all_goals first
                | (rename_i hh; exact absurd (show ((b : Int) != 121) = false from hh) (by rw [q3]; decide))
                | (go_ret2; exact ⟨by rw [U.out]; rfl, B2.out⟩)
          · subst h
            have kM : (((3 : Nat) : Int)) < 4 := by have := GD.out; omega
            have kn : (((3 : Nat) : Int)) < l.length := by omega
            try rw [Nat.add_zero] at v0
            clear hkl
            by_cases q : b = 1
            · subst q
              go_upto_region 6 with fail
              go_quiet (fail)
              obtain ⟨W, eW⟩ : ∃ W, W = wr.drewN nq := ⟨_, rfl⟩
              rw [← eW]
              have B2 : Hid (Below w.heap.size w W) := by rw [eW]; exact bl_drewN BW.out _
              clear eW v0
              go_wp2
              exact ⟨⟨3 + 1, rfl, by have := GD.out; omega, fun j hj => by rcases Nat.lt_succ_iff_lt_or_eq.1 hj with z | z; exact EQ.out j z; subst z; exact GD.out.1, B2.out⟩, by have := GD.out; show 4 - (((3 : Nat) : Int) + 1).toNat < 4 - (((3 : Nat) : Int)).toNat; omega⟩
            · have q' : ((b : Int) == 1) = false := by rw [beq_eq_false_iff_ne]; omega
              have q2 : ¬ (b : Int) = 1 := by omega
              have q3 : ((b : Int) != 1) = true := by rw [bne_iff_ne]; omega
              have q4 : ¬ b = 1 := q
              have U : Hid (u = (((3 : Nat) : Int), 200)) := by
                have z := frO_bad LN.out (fm_at (k := 3) (by omega) GD.out.2.1 EQ.out (by rw [GD.out.1]; exact q))
                show _ = _
                rw [← RE.out]; exact z
              clear q
              go_upto_region 6 with fail
              go_quiet (fail)
              obtain ⟨W, eW⟩ : ∃ W, W = wr.drewN nq := ⟨_, rfl⟩
              rw [← eW]
              have B2 : Hid (Below w.heap.size w W) := by rw [eW]; exact bl_drewN BW.out _
              clear eW v0
              go_wp2
              all_goals first
                | (rename_i hh; exact absurd (show ((b : Int) != 1) = false from hh) (by rw [q3]; decide))
                | (go_ret2; exact ⟨by rw [U.out]; rfl, B2.out⟩)
        · have ek : k = 4 := by omega
          subst ek
          have BW : Hid (Below w.heap.size w wr) := hW
          have EQ : Hid (∀ j, j < 4 → l.getD j 0 = magN j) := hE
          clear hk hkM hW hE
          by_cases h8 : l.length < 8
          · have U : Hid (u = ((l.length : Int), 2)) := by
              have z := frO_short (l := l) (by omega) (fm_no (fun j h1 h2 => EQ.out j h1))
              show _ = _
              rw [← RE.out]; exact z
            have e1 : wrap64 ((l.length : Int) - 4) = (l.length : Int) - 4 := by have := LN.out; unfold wrap64; omega
            have e2 : (l.length : Int) - 4 < 4 := by omega
            go_wp2
            go_ret2
            exact ⟨by rw [U.out]; rfl, BW.out⟩
          · obtain ⟨E, hE⟩ : ∃ E, E = l.length - 4 := ⟨_, rfl⟩
            have e1 : wrap64 ((l.length : Int) - 4) = (E : Int) := by have := LN.out; unfold wrap64; omega
            have e2 : ¬ (E : Int) < 4 := by omega
            have e3 : ((E : Nat) : Int).toNat = E := by omega
            have e4 : E ≤ c := by have := HC.out; omega
            have e5 : (E : Int) ≤ c := by omega
            have e6 : (E : Int) ≤ l.length := by omega
            have e7 : E ≤ l.length := by omega
            have e8 : l.length - E = 4 := by omega
            have e9 : ¬ c = E := by have := HC.out; omega
            have ea : ¬ c - E = 0 := by omega
            have eb : l.length ≤ c := HC.out
            obtain ⟨b, hb⟩ : ∃ b, l[0]? = some b := ⟨_, List.getElem?_eq_getElem (by omega)⟩
            obtain ⟨kb, o, hx, hk1, _⟩ := HX.out 0 _ hb
            subst hx
            have kl : kb < wr.heap.size := Nat.lt_of_lt_of_le hk1 BW.out.size
            have CL : ∀ (i v : Nat), l[i]? = some v → wr.cell? ⟨kb, o + i, none⟩ = some (.int .u8 v) := fun i v hv => by
              obtain ⟨kb', o', hx, h1, h2⟩ := HX.out i v hv
              cases hx
              exact (BW.out.cell h1).trans h2
            obtain ⟨b0, hb0⟩ : ∃ b, l[E]? = some b := ⟨_, List.getElem?_eq_getElem (by omega)⟩
            obtain ⟨b1, hb1⟩ : ∃ b, l[E + 1]? = some b := ⟨_, List.getElem?_eq_getElem (by omega)⟩
            obtain ⟨b2, hb2⟩ : ∃ b, l[E + 2]? = some b := ⟨_, List.getElem?_eq_getElem (by omega)⟩
            obtain ⟨b3, hb3⟩ : ∃ b, l[E + 3]? = some b := ⟨_, List.getElem?_eq_getElem (by omega)⟩
            have DR : Hid (l.drop E = [b0, b1, b2, b3]) := drop4 (by omega) hb0 hb1 hb2 hb3
            have G8 : Hid (b0 < 256 ∧ b1 < 256 ∧ b2 < 256 ∧ b3 < 256) := ⟨H8.out _ (List.mem_of_getElem? hb0), H8.out _ (List.mem_of_getElem? hb1), H8.out _ (List.mem_of_getElem? hb2), H8.out _ (List.mem_of_getElem? hb3)⟩
            have v0 := CL _ _ hb0
            have v1 := CL _ _ hb1
            have v2 := CL _ _ hb2
            have v3 := CL _ _ hb3
            rw [← Nat.add_assoc] at v1 v2 v3
            have SM : Hid (∀ y : Sub wr, Calls Tryz.prog 12 #[.slice (some ⟨kb, o, none⟩) E c] y.w fun e w' => e = .returned (cr4 (crcF (l.take E))) ∧ Below y.w.heap.size y.w w') := fun y =>
              sumOfX_of (some ⟨kb, o, none⟩) E c (l.take E) y.w (by have := LN.out; omega) (by rw [List.length_take]; omega) (fun b hb => H8.out b (List.mem_of_mem_take hb)) (fun i v hv => ⟨⟨kb, o, none⟩, rfl, Nat.lt_of_lt_of_le kl y.h.size, by
                have hv' : l[i]? = some v := by rw [List.getElem?_take] at hv; split at hv; exact hv; cases hv
                rw [add_kb]
                exact (y.h.cell kl).trans (CL i v hv')⟩)
            have UU : Hid (u = if cr4N (crcF (l.take E)) = l.drop E then (0, 0) else ((E : Int), 201)) := by
              show _ = _
              rw [← RE.out]
              unfold frO
              rw [if_neg (by have := LN.out; omega), fm_no (fun j h1 h2 => EQ.out j h1)]
              show (if l.length < 8 then _ else _) = _
              rw [if_neg h8, hE]
              congr 1
              show (((l.length : Int) - 4), (201 : Int)) = (((l.length - 4 : Nat) : Int), 201)
              congr 1
              omega
            generalize crcF (l.take E) = cc at *
            have h6 : ¬ (l.length : Int) - 4 < 4 := by omega
            have h7 : ((l.length : Int) - 4).toNat = l.length - 4 := by omega
            have h9 : (0 : Int) ≤ (l.length : Int) - 4 := by omega
            have h10 : (l.length : Int) - 4 ≤ c := by omega
            have h11 : (l.length : Int) - 4 ≤ l.length := by omega
            clear CL hb hb0 hb1 hb2 hb3 hk1 h8 h5 e1 e2 e3
            subst hE
            go_upto_region 12 with fail
            unfold cr4 at SM
            refine wp_region_sub2 (by kernel_rfl) (by kernel_rfl) ?_
            intro cx
            (first | go_big_quiet_skip | (go_big_quiet_want; go_big_quiet_op; first | go_big_quiet_on | (refine ⟨_, fun _ => rfl, ?_⟩; go_big_quiet_on) | go_big_quiet_call (first | (go_at_call 12; exact calls_sub (SM.out _)))))
            (first | go_big_quiet_skip | (go_big_quiet_want; go_big_quiet_op; first | go_big_quiet_on | (refine ⟨_, fun _ => rfl, ?_⟩; go_big_quiet_on) | go_big_quiet_call (first | (go_at_call 12; exact calls_sub (SM.out _)))))
            (first | go_big_quiet_skip | (go_big_quiet_want; go_big_quiet_op; first | go_big_quiet_on | (refine ⟨_, fun _ => rfl, ?_⟩; go_big_quiet_on) | go_big_quiet_call (first | (go_at_call 12; exact calls_sub (SM.out _)))))
            (first | go_big_quiet_skip | (go_big_quiet_want; go_big_quiet_op; first | go_big_quiet_on | (refine ⟨_, fun _ => rfl, ?_⟩; go_big_quiet_on) | go_big_quiet_call (first | (go_at_call 12; exact calls_sub (SM.out _)))))
            (first | go_big_quiet_skip | (go_big_quiet_want; go_big_quiet_op; first | go_big_quiet_on | (refine ⟨_, fun _ => rfl, ?_⟩; go_big_quiet_on) | go_big_quiet_call (first | (go_at_call 12; exact calls_sub (SM.out _)))))
            (first | go_big_quiet_skip | (go_big_quiet_want; go_big_quiet_op; first | go_big_quiet_on | (refine ⟨_, fun _ => rfl, ?_⟩; go_big_quiet_on) | go_big_quiet_call (first | (go_at_call 12; exact calls_sub (SM.out _)))))
            (first | go_big_quiet_skip | (go_big_quiet_want; go_big_quiet_op; first | go_big_quiet_on | (refine ⟨_, fun _ => rfl, ?_⟩; go_big_quiet_on) | go_big_quiet_call (first | (go_at_call 12; exact calls_sub (SM.out _)))))
            go_big_quiet_want
            go_big_quiet_op
            refine ⟨.pointer (some ⟨kb, o + (l.length - 4), none⟩), fun y => by rw [arr4]; exact ⟨rfl, rfl⟩, ?_⟩
            go_big_quiet_on
            go_big_quiet_want
            go_big_quiet_op
            refine ⟨_, fun _ => rfl, ?_⟩
            go_big_quiet_on
            go_big_quiet_want
            go_big_quiet_op
            refine ⟨.bool (!decide (uW cc % 256 = b0 ∧ uW cc / 256 % 256 = b1 ∧ uW cc / 65536 % 256 = b2 ∧ uW cc / 16777216 % 256 = b3)), fun y => by rw [eqA4 _ _ _ _ _ _ _ _ _ (wf8 _ (by omega) (by omega)) (wf8 _ (by omega) (by omega)) (wf8 _ (by omega) (by omega)) (wf8 _ (by omega) (by omega)) (wf8 _ (by omega) (by have := G8.out.1; omega)) (wf8 _ (by omega) (by have := G8.out.2.1; omega)) (wf8 _ (by omega) (by have := G8.out.2.2.1; omega)) (wf8 _ (by omega) (by have := G8.out.2.2.2; omega))]; exact ⟨rfl, rfl⟩, ?_⟩
            go_big_quiet_on
            refine wpQuiet_nil ?_
            rintro _ ⟨y, rfl⟩
            have BY : Hid (Below w.heap.size w y.w) := BW.out.trans (y.h.mono BW.out.size)
            clear cx
            by_cases q : uW cc % 256 = b0 ∧ uW cc / 256 % 256 = b1 ∧ uW cc / 65536 % 256 = b2 ∧ uW cc / 16777216 % 256 = b3
            · have qd : decide (uW cc % 256 = b0 ∧ uW cc / 256 % 256 = b1 ∧ uW cc / 65536 % 256 = b2 ∧ uW cc / 16777216 % 256 = b3) = true := decide_eq_true q
              rw [qd]
              have U : Hid (u = (0, 0)) := by
                have z := UU.out
                rw [if_pos (by rw [DR.out]; unfold cr4N; rw [q.1, q.2.1, q.2.2.1, q.2.2.2]; rfl)] at z
                exact z
              clear q qd
              go_wp2
              go_ret2
              exact ⟨by rw [U.out]; rfl, BY.out⟩
            · have qd : decide (uW cc % 256 = b0 ∧ uW cc / 256 % 256 = b1 ∧ uW cc / 65536 % 256 = b2 ∧ uW cc / 16777216 % 256 = b3) = false := decide_eq_false q
              rw [qd]
              have U : Hid (u = (((l.length - 4 : Nat) : Int), 201)) := by
                have z := UU.out
                rw [if_neg (by
                  rw [DR.out]
                  unfold cr4N
                  intro e
                  apply q
                  injection e with e0 e
                  injection e with e1 e
                  injection e with e2 e
                  injection e with e3 e
                  omega)] at z
                exact z
              have el : ((l.length - 4 : Nat) : Int) = (l.length : Int) - 4 := by omega
              clear q qd
              go_wp2
              go_ret2
              exact ⟨by rw [U.out, el]; rfl, BY.out⟩
end Go.Proofs.YtdcjngakmkgbmaaGreat
namespace Go.Proofs.YtdcjngakmkgbmaaGreat
set_option linter.unusedVariables false
open Go.RowKit
/-- The k-th number of a number's halving by bytes. -/
def xK (n : Int) (k : Nat) : Int := n % 18446744073709551616 / 256 ^ k
theorem xK_range (n : Int) (k : Nat) (h : k < 9) : 0 ≤ xK n k ∧ xK n k < 18446744073709551616 := by
  unfold xK
  rcases (show k = 0 ∨ k = 1 ∨ k = 2 ∨ k = 3 ∨ k = 4 ∨ k = 5 ∨ k = 6 ∨ k = 7 ∨ k = 8 by omega) with rfl | rfl | rfl | rfl | rfl | rfl | rfl | rfl | rfl <;> omega
theorem xK_succ (n : Int) (k : Nat) (h : k < 8) : xK n k / (256 : Int) = xK n (k + 1) := by
  unfold xK
  rcases (show k = 0 ∨ k = 1 ∨ k = 2 ∨ k = 3 ∨ k = 4 ∨ k = 5 ∨ k = 6 ∨ k = 7 by omega) with rfl | rfl | rfl | rfl | rfl | rfl | rfl | rfl <;> omega
theorem xK_byte (n : Int) (k : Nat) (h : k < 8) : xK n k % (256 : Int) = ((n / 2 ^ (8 * k) % (256 : Int)).toNat : Int) := by
  rw [by_nat]
  unfold xK
  rcases (show k = 0 ∨ k = 1 ∨ k = 2 ∨ k = 3 ∨ k = 4 ∨ k = 5 ∨ k = 6 ∨ k = 7 by omega) with rfl | rfl | rfl | rfl | rfl | rfl | rfl | rfl <;> omega
set_option maxRecDepth 20000 in
set_option maxHeartbeats 4000000 in
theorem numR (B : Nat) (l : List Nat) (v : Value) (n : Int) (w : World) (h : Sb B l v w) (hB : B ≤ w.heap.size) (hl : l.length ≤ 35184372088832) :
    Calls Tryz.prog 44 #[v, .int .i64 n] w fun e w' => ∃ v', e = .returned v' ∧ Sb B (l ++ nbN n) v' w' ∧ Bq B w w' := by
  obtain ⟨i0, hi, hz0, hz1, hz2⟩ := u8_info
  obtain ⟨sx, sn, sc, rfl⟩ := h.form
  have H : Hid (Sb B l (.slice sx sn sc) w) := h
  have HL : Hid (l.length ≤ 35184372088832) := hl
  have HB : Hid (B ≤ w.heap.size) := hB
  clear h hl hB
  have X0 : Hid (n % 18446744073709551616 = xK n 0) := by show _ = _; unfold xK; omega
  go_enter Tryz.func44, Tryz.ntmps44
  go_upto_region 2 with fail
  go_upto_region 3 with fail
  go_loopw [0, 5, 6] (fun v x i wr => ∃ (k : Nat) (sx : Option Addr) (sn sc : Nat), k ≤ 8 ∧ v = .slice sx sn sc ∧ x = .int .u64 (xK n k) ∧ i = .int .i64 k ∧ Sb B (l ++ nbK n k) (.slice sx sn sc) wr ∧ Bq B w wr) (fun _ _ i _ => 8 - (intOf i).toNat)
  case atStart => exact ⟨0, sx, sn, sc, Nat.zero_le _, rfl, by rw [← X0.out]; first | done | rfl, rfl, by rw [show nbK n 0 = [] from rfl, List.append_nil]; exact H.out, Bq.refl _ _⟩
  case round =>
    obtain ⟨k, tx, tn, tc, hk, rfl, rfl, rfl, hw, hb⟩ := hrel
    have HW : Hid (Sb B (l ++ nbK n k) (.slice tx tn tc) wr) := hw
    have HQ : Hid (Bq B w wr) := hb
    clear hw hb
    by_cases hlt : k < 8
    · have kl : (k : Int) < 8 := by omega
      have LT : Hid (k < 8) := hlt
      have ek : wrap64 ((k : Int) + 1) = (k : Int) + 1 := by unfold wrap64; omega
      obtain ⟨x0, x1⟩ := xK_range n k (by omega)
      have XS : Hid (xK n k / (256 : Int) = xK n (k + 1)) := xK_succ n k hlt
      have XB : Hid (xK n k % (256 : Int) = ((n / 2 ^ (8 * k) % (256 : Int)).toNat : Int)) := xK_byte n k hlt
      have NB : Hid (nbK n (k + 1) = nbK n k ++ [(n / 2 ^ (8 * k) % (256 : Int)).toNat]) := nbK_succ n k
      generalize (n / 2 ^ (8 * k) % (256 : Int)).toNat = b at *
      generalize xK n k = x at *
      have BW : Hid (B ≤ wr.heap.size) := Nat.le_trans HB.out HQ.out.b.size
      have LW : Hid ((l ++ nbK n k).length ≤ 35184372088900) := by show _ ≤ _; rw [List.length_append, nbK_len]; have := HL.out; omega
      have GA : Hid (∀ X : Obj, Below wr.heap.size wr (wr.alloc X)) := fun X => (Below.refl _ _).alloc (Nat.le_refl _) _
      clear hlt hk
      go_wp2_with (at_builtin; refine wpList_append_own _ rfl _ _ 27 rfl B 5 i0 _ 1 1 Tryz.underlying27 hi hz0 hz1 hz2 rfl (by decide) _ (l ++ nbK n k).length (bvL (l ++ nbK n k)) rfl (HW.out.below (GA.out _)) ⟨wr.heap.size, 0, none⟩ 1 1 [.int .u8 (x % 256)] rfl rfl (cell_one_new _ _ _) (by simp [Value.oneCell']) (by have := LW.out; unfold maxLen; omega) (by have := LW.out; omega) (by have := BW.out; simp; omega) ?_)
      intro v' w1 k1 k2 k3
      rw [XB.out] at k1
      have S1 : Hid (Sb B (l ++ nbK n (k + 1)) v' w1) := by show Sb _ _ _ _; rw [NB.out, ← List.append_assoc]; exact Sb.app (b := [b]) k1 (by simp [List.length_append]) rfl
      have Q1 : Hid (Bq B w w1) := (HQ.out.trans (Bq.up (GA.out _) BW.out)).grown (HW.out.below (GA.out _)) k2 (by have := BW.out; simp; omega)
      obtain ⟨ux, un, uc, rfl⟩ := S1.out.form
      clear k1 k2 k3
      go_wp2
      try rw [ek]
      exact ⟨⟨k + 1, ux, un, uc, Nat.succ_le_of_lt LT.out, rfl, by rw [← XS.out], rfl, S1.out, Q1.out⟩, msr LT.out⟩
    · have kl : ¬ (k : Int) < 8 := by omega
      have ek : k = 8 := by omega
      subst ek
      clear hlt hk
      go_wp2
      go_ret
      exact ⟨_, rfl, HW.out, HQ.out⟩
set_option maxRecDepth 20000 in
set_option maxHeartbeats 4000000 in
theorem textR (B : Nat) (l : List Nat) (v : Value) (s : ByteArray) (w : World) (h : Sb B l v w) (hB : B ≤ w.heap.size) (hl : l.length ≤ 17592186044416) (hs : s.size ≤ 4194304) :
    Calls Tryz.prog 43 #[v, .string s] w fun e w' => ∃ v', e = .returned v' ∧ Sb B (l ++ tbN s) v' w' ∧ Bq B w w' := by
  obtain ⟨i0, hi, hz0, hz1, hz2⟩ := u8_info
  have N0 : Hid (∀ W, Sb B l v W → B ≤ W.heap.size → Calls Tryz.prog 44 #[v, .int .i64 s.size] W fun e w' => ∃ v', e = .returned v' ∧ Sb B (l ++ nbN s.size) v' w' ∧ Bq B W w') := fun W hW hb => numR B l v _ W hW hb (by omega)
  have H : Hid (Sb B l v w) := h
  have HB : Hid (B ≤ w.heap.size) := hB
  have SZ : Hid ((l ++ nbN s.size).length + s.size ≤ 17592200000000) := by show _ ≤ _; rw [List.length_append, nbN_len]; omega
  clear h hB hl hs
  go_enter Tryz.func43, Tryz.ntmps43
  go_wp2_with (go_at_call 44; refine (N0.out _ H.out HB.out).mono ?_)
  first | (rintro e w1 ⟨v1, he, h1, hb1⟩; have he' := he) | (rintro e w1 v1 he h1 hb1)
  subst he
  have H1 : Hid (Sb B (l ++ nbN s.size) v1 w1) := h1
  have Q1 : Hid (Bq B w w1) := hb1
  have BW : Hid (B ≤ w1.heap.size) := Nat.le_trans HB.out hb1.b.size
  clear h1 hb1 N0 H
  obtain ⟨ux, un, uc, rfl⟩ := H1.out.form
  go_wp2_with (at_builtin; refine Lib.wpList_append_own_string _ rfl _ _ 27 9 rfl B 5 i0 Tryz.underlying27 Tryz.underlying9 hi hz0 hz1 hz2 _ _ _ rfl H1.out s rfl ?c3 ?c4 ?c5 ?_)
  case c3 => have := SZ.out; unfold maxLen; omega
  case c4 => have := SZ.out; omega
  case c5 => exact BW.out
  intro v' w2 k1 k2 k3
  have S2 : Hid (Sb B (l ++ tbN s) v' w2) := by
    show Sb _ _ _ _
    unfold tbN
    rw [← List.append_assoc]
    exact Sb.app k1 (by rw [sbN_len, List.length_append]) (by rw [sbN_str])
  have Q2 : Hid (Bq B w w2) := Q1.out.grown H1.out k2 BW.out
  obtain ⟨tx, tn, tc, rfl⟩ := S2.out.form
  clear k1 k2 k3
  go_wp2
  go_ret
  exact ⟨_, rfl, S2.out, Q2.out⟩
set_option maxRecDepth 20000 in
set_option maxHeartbeats 4000000 in
theorem valueR (B : Nat) (l : List Nat) (v : Value) (k b : Int) (s : ByteArray) (w : World) (h : Sb B l v w) (hB : B ≤ w.heap.size) (hl : l.length ≤ 8796093022208) (hs : s.size ≤ 4194304) (hk : 0 ≤ k ∧ k < 256) :
    Calls Tryz.prog 46 #[v, .agg #[.int .u8 k, .int .u64 b, .string s]] w fun e w' => ∃ v', e = .returned v' ∧ Sb B (l ++ vbN k b s) v' w' ∧ Bq B w w' := by
  obtain ⟨i0, hi, hz0, hz1, hz2⟩ := u8_info
  obtain ⟨sx, sn, sc, rfl⟩ := h.form
  have KK : Hid (k = ((k % (256 : Int)).toNat : Int)) := by show _ = _; rw [by_nat]; omega
  have N0 : Hid (∀ V W, Sb B (l ++ [(k % (256 : Int)).toNat]) V W → B ≤ W.heap.size → Calls Tryz.prog 44 #[V, .int .i64 (wrap64 b)] W fun e w' => ∃ v', e = .returned v' ∧ Sb B (l ++ [(k % (256 : Int)).toNat] ++ nbN (wrap64 b)) v' w' ∧ Bq B W w') := fun V W hW hb => numR B _ V _ W hW hb (by rw [List.length_append]; simp; omega)
  have T0 : Hid (∀ V W, Sb B (l ++ [(k % (256 : Int)).toNat] ++ nbN (wrap64 b)) V W → B ≤ W.heap.size → Calls Tryz.prog 43 #[V, .string s] W fun e w' => ∃ v', e = .returned v' ∧ Sb B (l ++ vbN k b s) v' w' ∧ Bq B W w') := fun V W hW hb => by
    have e : l ++ vbN k b s = l ++ [(k % (256 : Int)).toNat] ++ nbN (wrap64 b) ++ tbN s := by unfold vbN; simp only [List.append_assoc]
    rw [e]
    exact textR B _ V s W hW hb (by rw [List.length_append, List.length_append, nbN_len]; simp; omega) hs
  obtain ⟨AW, eW⟩ : ∃ AW, AW = w.alloc (.cells #[.int .u8 k, .int .u64 b, .string s] 38 (0, 0)) := ⟨_, rfl⟩
  have AX : Hid (AW.heap[w.heap.size]? = some (.cells #[.int .u8 k, .int .u64 b, .string s] 38 (0, 0))) := by rw [eW]; exact heap_alloc_last _ _
  have AB : Hid (Below w.heap.size w AW) := by rw [eW]; exact (Below.refl _ _).alloc (Nat.le_refl _) _
  have QA : Hid (Bq B w AW) := Bq.up AB.out hB
  have H0 : Hid (Sb B l (.slice sx sn sc) AW) := h.below AB.out
  have BA : Hid (B ≤ AW.heap.size) := Nat.le_trans hB AB.out.size
  have SZ : Hid (l.length ≤ 8796093022208) := hl
  clear h hl hs hk hB
  have i0' : AW.cell? ⟨w.heap.size, 0, none⟩ = some (.int .u8 k) := by simp [World.cell?, AX.out]
  have GA : Hid (∀ X : Obj, Below AW.heap.size AW (AW.alloc X)) := fun X => (Below.refl _ _).alloc (Nat.le_refl _) _
  go_enter Tryz.func46, Tryz.ntmps46
  go_upto_region 1 with fail
  rw [← eW]
  clear eW
  go_wp2_with (at_builtin; refine wpList_append_own _ rfl _ _ 27 rfl B 5 i0 _ 1 1 Tryz.underlying27 hi hz0 hz1 hz2 rfl (by decide) _ l.length (bvL l) rfl (H0.out.below (GA.out _)) ⟨AW.heap.size, 0, none⟩ 1 1 [.int .u8 k] rfl rfl (cell_one_new _ _ _) (by simp [Value.oneCell']) (by have := SZ.out; unfold maxLen; omega) (by have := SZ.out; omega) (by have := BA.out; simp; omega) ?_)
  intro v' w1 k1 k2 k3
  have S1 : Hid (Sb B (l ++ [(k % (256 : Int)).toNat]) v' w1) := by
    have q := k1
    rw [KK.out] at q
    exact one_app q
  have Q1 : Hid (Bq B AW w1) := (Bq.up (GA.out _) BA.out).grown (H0.out.below (GA.out _)) k2 (by have := BA.out; simp; omega)
  obtain ⟨ux, un, uc, rfl⟩ := S1.out.form
  have X1 := Q1.out.k _ _ _ _ AX.out (by decide) (by decide)
  have i1 : w1.cell? ⟨w.heap.size, 1, none⟩ = some (.int .u64 b) := by simp [World.cell?, X1]
  clear k1 k2 k3 i0' X1
  go_wp2_with (go_at_call 44; refine (N0.out _ _ S1.out (Nat.le_trans BA.out Q1.out.b.size)).mono ?_)
  first | (rintro e w2 ⟨v2, he, h1, hb1⟩; have he' := he) | (rintro e w2 v2 he h1 hb1)
  subst he
  have S2 : Hid (Sb B (l ++ [(k % (256 : Int)).toNat] ++ nbN (wrap64 b)) v2 w2) := h1
  have Q2 : Hid (Bq B AW w2) := Q1.out.trans hb1
  obtain ⟨tx, tn, tc, rfl⟩ := h1.form
  have X2 := Q2.out.k _ _ _ _ AX.out (by decide) (by decide)
  have i2 : w2.cell? ⟨w.heap.size, 2, none⟩ = some (.string s) := by simp [World.cell?, X2]
  clear h1 hb1 i1 X2
  go_wp2_with (go_at_call 43; refine (T0.out _ _ S2.out (Nat.le_trans BA.out Q2.out.b.size)).mono ?_)
  first | (rintro e w3 ⟨v3, he, h1, hb1⟩; have he' := he) | (rintro e w3 v3 he h1 hb1)
  subst he
  have S3 : Hid (Sb B (l ++ vbN k b s) v3 w3) := h1
  have Q3 : Hid (Bq B w w3) := QA.out.trans (Q2.out.trans hb1)
  obtain ⟨zx, zn, zc, rfl⟩ := h1.form
  clear h1 hb1 i2
  go_wp2
  go_ret
  exact ⟨_, rfl, S3.out, Q3.out⟩
set_option maxRecDepth 20000 in
set_option maxHeartbeats 4000000 in
theorem numbersR (B : Nat) (bs : List Nat) (v : Value) (l : List Int) (x : Option Addr) (c : Nat) (w : World) {S : Nat → Prop} (h : Sb B bs v w) (hB : B ≤ w.heap.size) (hS : ∀ b, S b → b < B) (ha : RwF 1 (Is inC) S w x l) (hl : bs.length + 8 + l.length * 8 ≤ 8796093022208) (hn : l.length ≤ 1048576) :
    Calls Tryz.prog 48 #[v, .slice x l.length c] w fun e w' => ∃ v', e = .returned v' ∧ Sb B (bs ++ lsN nbN l) v' w' ∧ Bq B w w' := by
  have HB : Hid (B ≤ w.heap.size) := hB
  have HA : Hid (∀ V, Bq B w V → RwF 1 (Is inC) S V x l) := fun V hV => ha.fr (fun q hq => hV.b.cell (hS _ hq))
  have HN : Hid (l.length ≤ 1048576) := hn
  have N0 : Hid (∀ W, Sb B bs v W → B ≤ W.heap.size → Calls Tryz.prog 44 #[v, .int .i64 l.length] W fun e w' => ∃ v', e = .returned v' ∧ Sb B (bs ++ nbN l.length) v' w' ∧ Bq B W w') := fun W hW hb => numR B bs v _ W hW hb (by omega)
  have R0 : Hid (∀ (k : Nat) s V W, l[k]? = some s → Sb B (bs ++ nbN l.length ++ (l.take k).flatMap nbN) V W → B ≤ W.heap.size → Calls Tryz.prog 44 #[V, .int .i64 s] W fun e w' => ∃ v', e = .returned v' ∧ Sb B (bs ++ nbN l.length ++ (l.take (k + 1)).flatMap nbN) v' w' ∧ Bq B W w') := fun k s V W hk hW hb => by
    have e : bs ++ nbN l.length ++ (l.take (k + 1)).flatMap nbN = bs ++ nbN l.length ++ (l.take k).flatMap nbN ++ nbN s := by rw [List.take_add_one, hk, List.flatMap_append]; simp [List.append_assoc]
    rw [e]
    have q := flat_le nbN 8 (l.take k) (fun e _ => by rw [nbN_len]; omega)
    have q2 := List.length_take_le' k l
    exact numR B _ V s W hW hb (by rw [List.length_append, List.length_append, nbN_len]; omega)
  have H : Hid (Sb B bs v w) := h
  clear h hB ha hl hn
  go_enter Tryz.func48, Tryz.ntmps48
  go_wp2_with (go_at_call 44; refine (N0.out _ H.out HB.out).mono ?_)
  first | (rintro e w1 ⟨v1, he, h1, hb1⟩; have he' := he) | (rintro e w1 v1 he h1 hb1)
  subst he
  have S1 : Hid (Sb B (bs ++ nbN l.length) v1 w1) := h1
  have Q1 : Hid (Bq B w w1) := hb1
  obtain ⟨tx, tn, tc, rfl⟩ := h1.form
  clear h1 hb1 N0 H
  go_upto_region 2 with fail
  go_upto_region 3 with fail
  go_loopw [0, 5] (fun u i wr => ∃ (k : Nat) (sx : Option Addr) (sn sc : Nat), k ≤ l.length ∧ u = .slice sx sn sc ∧ i = .int .i64 k ∧ Sb B (bs ++ nbN l.length ++ (l.take k).flatMap nbN) (.slice sx sn sc) wr ∧ Bq B w wr) (fun _ i _ => l.length - (intOf i).toNat)
  case atStart => exact ⟨0, _, _, _, Nat.zero_le _, rfl, rfl, by rw [List.take_zero, List.flatMap_nil, List.append_nil]; exact S1.out, Q1.out⟩
  case round =>
    obtain ⟨k, sx, sn, sc, hk, rfl, rfl, hw, hb⟩ := hrel
    have HW : Hid (Sb B (bs ++ nbN l.length ++ (l.take k).flatMap nbN) (.slice sx sn sc) wr) := hw
    have HQ : Hid (Bq B w wr) := hb
    clear hw hb S1 Q1
    by_cases hlt : k < l.length
    · obtain ⟨a, rfl⟩ := (HA.out wr HQ.out).some (by omega)
      obtain ⟨s, sv, se, sb, rfl, sk⟩ := (HA.out wr HQ.out).el k hlt
      have e0 := sk.c0
      rw [Nat.mul_one] at e0
      have SE : Hid (l[k]? = some s) := se
      have LT : Hid (k < l.length) := hlt
      have kl : (k : Int) < l.length := by omega
      have ek : wrap64 ((k : Int) + 1) = (k : Int) + 1 := by have := HN.out; unfold wrap64; omega
      clear hlt se sk sb hk
      go_wp2_with (go_at_call 44; refine (R0.out k s _ _ SE.out HW.out (Nat.le_trans HB.out HQ.out.b.size)).mono ?_)
      first | (rintro e w2 ⟨v2, he, h1, hb1⟩; have he' := he) | (rintro e w2 v2 he h1 hb1)
      subst he
      have H2 : Hid (Sb B (bs ++ nbN l.length ++ (l.take (k + 1)).flatMap nbN) v2 w2) := h1
      have Q2 : Hid (Bq B w w2) := HQ.out.trans hb1
      obtain ⟨ux, un, uc, rfl⟩ := h1.form
      clear h1 hb1 e0
      go_wp2
      try rw [ek]
      exact ⟨⟨k + 1, ux, un, uc, Nat.succ_le_of_lt LT.out, rfl, rfl, H2.out, Q2.out⟩, msrE LT.out⟩
    · have kl : ¬ (k : Int) < l.length := by omega
      have ek : k = l.length := by omega
      subst ek
      rw [List.take_length, List.append_assoc] at HW
      clear hlt hk
      go_wp2
      go_ret
      exact ⟨_, rfl, HW.out, HQ.out⟩
end Go.Proofs.YtdcjngakmkgbmaaGreat
namespace Go.Proofs.YtdcjngakmkgbmaaGreat
set_option linter.unusedVariables false
open Go.RowKit
theorem nsN_cons (a : Int) (l : List Int) : nsN (a :: l) = nbN a ++ nsN l := rfl
theorem nsN_nil : nsN [] = [] := rfl
set_option maxRecDepth 20000 in
set_option maxHeartbeats 8000000 in
theorem flatR (B : Nat) (bs : List Nat) (v : Value) (f : FlR) (x1 x2 : Option Addr) (p1 p2 : Nat) (w : World) {S : Nat → Prop} (h : Sb B bs v w) (hB : B ≤ w.heap.size) (hS : ∀ b, S b → b < B) (hq : FlQ S w f x1 x2) (ho : FlS f) (hl : bs.length ≤ 6000000000000) :
    Calls Tryz.prog 47 #[v, FlV f x1 x2 p1 p2] w fun e w' => ∃ v', e = .returned v' ∧ Sb B (bs ++ flbN f) v' w' ∧ Bq B w w' := by
  obtain ⟨sx, sn, sc, rfl⟩ := h.form
  have OK : Hid (FlS f) := ho
  obtain ⟨AW, eW⟩ : ∃ AW, AW = w.alloc (.cells #[.string f.nm, .int .i64 f.wh, .int .i64 f.ce, .int .i64 f.ba, .int .i64 f.rg, .int .i64 f.sl, .slice x1 f.os.length p1, .slice x2 f.ls.length p2] 44 (0, 0)) := ⟨_, rfl⟩
  have AX : Hid (AW.heap[w.heap.size]? = some (.cells #[.string f.nm, .int .i64 f.wh, .int .i64 f.ce, .int .i64 f.ba, .int .i64 f.rg, .int .i64 f.sl, .slice x1 f.os.length p1, .slice x2 f.ls.length p2] 44 (0, 0))) := by rw [eW]; exact heap_alloc_last _ _
  have AB : Hid (Below w.heap.size w AW) := by rw [eW]; exact (Below.refl _ _).alloc (Nat.le_refl _) _
  have QA : Hid (Bq B w AW) := Bq.up AB.out hB
  have BQ : Hid (∀ V, Bq B AW V → B ≤ V.heap.size) := fun V hV => Nat.le_trans (Nat.le_trans hB AB.out.size) hV.b.size
  have RO : Hid (∀ V, Bq B AW V → RwF 10 (Is opC) S V x1 f.os) := fun V hV => hq.1.fr (fun q hqq => (QA.out.trans hV).b.cell (hS _ hqq))
  have RL : Hid (∀ V, Bq B AW V → RwF 3 (Is lpC) S V x2 f.ls) := fun V hV => hq.2.fr (fun q hqq => (QA.out.trans hV).b.cell (hS _ hqq))
  have nmz : f.nm.size ≤ 4194304 := ho.1.1
  have N1 : Hid (f.os.length ≤ 16384) := ho.2.1
  have N2 : Hid (f.ls.length ≤ 16384) := ho.2.2
  obtain ⟨bz0, eb⟩ : ∃ z, z = bs := ⟨_, rfl⟩
  have E0 : Hid (bz0 = bs) := eb
  obtain ⟨w0, ew0⟩ : ∃ z, z = AW := ⟨_, rfl⟩
  have S0 : Hid (Sb B bz0 (.slice sx sn sc) w0) := by rw [eb, ew0]; exact h.below AB.out
  have Q0 : Hid (Bq B AW w0) := by rw [ew0]; exact Bq.refl _ _
  have L0 : Hid (bz0.length ≤ 6000000000000) := by rw [eb]; exact hl
  clear h hB hS hq ho hl eb
  go_enter Tryz.func47, Tryz.ntmps47
  go_upto_region 1 with fail
  rw [← eW, ← ew0]
  clear eW ew0
  have X := Q0.out.k _ _ _ _ AX.out (by decide) (by decide)
  have i0 : w0.cell? ⟨w.heap.size, 0, none⟩ = some (.string f.nm) := by simp [World.cell?, X]
  clear X
  go_wp2_with (go_at_call 43; refine (textR B _ _ _ _ S0.out (BQ.out _ Q0.out) (by have := L0.out; omega) nmz).mono ?_)
  first | (rintro e w1 ⟨v1, he, h1, hb1⟩; have he' := he) | (rintro e w1 v1 he h1 hb1)
  have hsz : f.nm.size ≤ 4194304 := nmz
  subst he
  have Q1 : Hid (Bq B AW w1) := Q0.out.trans hb1
  obtain ⟨bz1, ez⟩ : ∃ z, z = bz0 ++ tbN f.nm := ⟨_, rfl⟩
  rw [← ez] at h1
  have S1 : Hid (Sb B bz1 v1 w1) := h1
  have E1 : Hid (bz1 = bz0 ++ tbN f.nm) := ez
  have L1 : Hid (bz1.length ≤ 6000004194312) := by show _ ≤ _; rw [ez, List.length_append, tbN_len]; have := L0.out; omega
  obtain ⟨tx1, tn1, tc1, rfl⟩ := h1.form
  clear h1 hb1 ez hsz i0
  have X := Q1.out.k _ _ _ _ AX.out (by decide) (by decide)
  have i1 : w1.cell? ⟨w.heap.size, 1, none⟩ = some (.int .i64 f.wh) := by simp [World.cell?, X]
  clear X
  go_wp2_with (go_at_call 44; refine (numR B _ _ _ _ S1.out (BQ.out _ Q1.out) (by have := L1.out; omega)).mono ?_)
  first | (rintro e w2 ⟨v2, he, h1, hb1⟩; have he' := he) | (rintro e w2 v2 he h1 hb1)
  subst he
  have Q2 : Hid (Bq B AW w2) := Q1.out.trans hb1
  obtain ⟨bz2, ez⟩ : ∃ z, z = bz1 ++ nbN f.wh := ⟨_, rfl⟩
  rw [← ez] at h1
  have S2 : Hid (Sb B bz2 v2 w2) := h1
  have E2 : Hid (bz2 = bz1 ++ nbN f.wh) := ez
  have L2 : Hid (bz2.length ≤ 6000004194320) := by show _ ≤ _; rw [ez, List.length_append, nbN_len]; have := L1.out; omega
  obtain ⟨tx2, tn2, tc2, rfl⟩ := h1.form
  clear h1 hb1 ez i1
  have X := Q2.out.k _ _ _ _ AX.out (by decide) (by decide)
  have i2 : w2.cell? ⟨w.heap.size, 2, none⟩ = some (.int .i64 f.ce) := by simp [World.cell?, X]
  clear X
  go_wp2_with (go_at_call 44; refine (numR B _ _ _ _ S2.out (BQ.out _ Q2.out) (by have := L2.out; omega)).mono ?_)
  first | (rintro e w3 ⟨v3, he, h1, hb1⟩; have he' := he) | (rintro e w3 v3 he h1 hb1)
  subst he
  have Q3 : Hid (Bq B AW w3) := Q2.out.trans hb1
  obtain ⟨bz3, ez⟩ : ∃ z, z = bz2 ++ nbN f.ce := ⟨_, rfl⟩
  rw [← ez] at h1
  have S3 : Hid (Sb B bz3 v3 w3) := h1
  have E3 : Hid (bz3 = bz2 ++ nbN f.ce) := ez
  have L3 : Hid (bz3.length ≤ 6000004194328) := by show _ ≤ _; rw [ez, List.length_append, nbN_len]; have := L2.out; omega
  obtain ⟨tx3, tn3, tc3, rfl⟩ := h1.form
  clear h1 hb1 ez i2
  have X := Q3.out.k _ _ _ _ AX.out (by decide) (by decide)
  have i3 : w3.cell? ⟨w.heap.size, 3, none⟩ = some (.int .i64 f.ba) := by simp [World.cell?, X]
  clear X
  go_wp2_with (go_at_call 44; refine (numR B _ _ _ _ S3.out (BQ.out _ Q3.out) (by have := L3.out; omega)).mono ?_)
  first | (rintro e w4 ⟨v4, he, h1, hb1⟩; have he' := he) | (rintro e w4 v4 he h1 hb1)
  subst he
  have Q4 : Hid (Bq B AW w4) := Q3.out.trans hb1
  obtain ⟨bz4, ez⟩ : ∃ z, z = bz3 ++ nbN f.ba := ⟨_, rfl⟩
  rw [← ez] at h1
  have S4 : Hid (Sb B bz4 v4 w4) := h1
  have E4 : Hid (bz4 = bz3 ++ nbN f.ba) := ez
  have L4 : Hid (bz4.length ≤ 6000004194336) := by show _ ≤ _; rw [ez, List.length_append, nbN_len]; have := L3.out; omega
  obtain ⟨tx4, tn4, tc4, rfl⟩ := h1.form
  clear h1 hb1 ez i3
  have X := Q4.out.k _ _ _ _ AX.out (by decide) (by decide)
  have i4 : w4.cell? ⟨w.heap.size, 4, none⟩ = some (.int .i64 f.rg) := by simp [World.cell?, X]
  clear X
  go_wp2_with (go_at_call 44; refine (numR B _ _ _ _ S4.out (BQ.out _ Q4.out) (by have := L4.out; omega)).mono ?_)
  first | (rintro e w5 ⟨v5, he, h1, hb1⟩; have he' := he) | (rintro e w5 v5 he h1 hb1)
  subst he
  have Q5 : Hid (Bq B AW w5) := Q4.out.trans hb1
  obtain ⟨bz5, ez⟩ : ∃ z, z = bz4 ++ nbN f.rg := ⟨_, rfl⟩
  rw [← ez] at h1
  have S5 : Hid (Sb B bz5 v5 w5) := h1
  have E5 : Hid (bz5 = bz4 ++ nbN f.rg) := ez
  have L5 : Hid (bz5.length ≤ 6000004194344) := by show _ ≤ _; rw [ez, List.length_append, nbN_len]; have := L4.out; omega
  obtain ⟨tx5, tn5, tc5, rfl⟩ := h1.form
  clear h1 hb1 ez i4
  have X := Q5.out.k _ _ _ _ AX.out (by decide) (by decide)
  have i5 : w5.cell? ⟨w.heap.size, 5, none⟩ = some (.int .i64 f.sl) := by simp [World.cell?, X]
  clear X
  go_wp2_with (go_at_call 44; refine (numR B _ _ _ _ S5.out (BQ.out _ Q5.out) (by have := L5.out; omega)).mono ?_)
  first | (rintro e w6 ⟨v6, he, h1, hb1⟩; have he' := he) | (rintro e w6 v6 he h1 hb1)
  subst he
  have Q6 : Hid (Bq B AW w6) := Q5.out.trans hb1
  obtain ⟨bz6, ez⟩ : ∃ z, z = bz5 ++ nbN f.sl := ⟨_, rfl⟩
  rw [← ez] at h1
  have S6 : Hid (Sb B bz6 v6 w6) := h1
  have E6 : Hid (bz6 = bz5 ++ nbN f.sl) := ez
  have L6 : Hid (bz6.length ≤ 6000004194352) := by show _ ≤ _; rw [ez, List.length_append, nbN_len]; have := L5.out; omega
  obtain ⟨tx6, tn6, tc6, rfl⟩ := h1.form
  clear h1 hb1 ez i5
  have X := Q6.out.k _ _ _ _ AX.out (by decide) (by decide)
  have i6 : w6.cell? ⟨w.heap.size, 6, none⟩ = some (.slice x1 f.os.length p1) := by simp [World.cell?, X]
  clear X
  go_wp2_with (go_at_call 44; refine (numR B _ _ _ _ S6.out (BQ.out _ Q6.out) (by have := L6.out; omega)).mono ?_)
  first | (rintro e w7 ⟨v7, he, h1, hb1⟩; have he' := he) | (rintro e w7 v7 he h1 hb1)
  subst he
  have Q7 : Hid (Bq B AW w7) := Q6.out.trans hb1
  obtain ⟨bz7, ez⟩ : ∃ z, z = bz6 ++ nbN f.os.length := ⟨_, rfl⟩
  rw [← ez] at h1
  have S7 : Hid (Sb B bz7 v7 w7) := h1
  have E7 : Hid (bz7 = bz6 ++ nbN f.os.length) := ez
  have L7 : Hid (bz7.length ≤ 6000004194360) := by show _ ≤ _; rw [ez, List.length_append, nbN_len]; have := L6.out; omega
  obtain ⟨tx7, tn7, tc7, rfl⟩ := h1.form
  clear h1 hb1 ez i6
  have PF : Hid (bz7 = bs ++ tbN f.nm ++ nsN [f.wh, f.ce, f.ba, f.rg, f.sl] ++ nbN f.os.length) := by show _ = _; rw [E7.out, E6.out, E5.out, E4.out, E3.out, E2.out, E1.out, E0.out]; simp only [nsN_cons, nsN_nil, List.append_assoc, List.nil_append]
  clear E0 E1 E2 E3 E4 E5 E6 E7 S0 L0 S1 L1 S2 L2 S3 L3 S4 L4 S5 L5 S6 L6
  go_upto_region 8 with fail
  go_upto_region 9 with fail
  have PT : Hid (∀ k, (bz7 ++ (f.os.take k).flatMap obN).length ≤ 6068724867128) := fun k => by
    have q := flat_le obN 4194377 (f.os.take k) (fun e he => by rw [obN_len]; have q1 : e.vs.size ≤ 4194304 := (OK.out.1.2.2.2.2.2.2.1 e (List.mem_of_mem_take he)).2.2.2.2.2.2.2.2.2; omega)
    have q2 : (f.os.take k).length ≤ 16384 := Nat.le_trans (List.length_take_le' k f.os) N1.out
    rw [List.length_append]
    have := L7.out
    have : (f.os.take k).length * 4194377 ≤ 16384 * 4194377 := Nat.mul_le_mul_right _ q2
    omega
  go_loopw [0, 5] (fun u i wr => ∃ (k : Nat) (sx : Option Addr) (sn sc : Nat), k ≤ f.os.length ∧ u = .slice sx sn sc ∧ i = .int .i64 k ∧ Sb B (bz7 ++ (f.os.take k).flatMap obN) (.slice sx sn sc) wr ∧ Bq B AW wr) (fun _ i _ => f.os.length - (intOf i).toNat)
  case atStart => exact ⟨0, _, _, _, Nat.zero_le _, rfl, rfl, by rw [List.take_zero, List.flatMap_nil, List.append_nil]; exact S7.out, Q7.out⟩
  case round =>
    obtain ⟨k, sx, sn, sc, hk, rfl, rfl, hw, hb⟩ := hrel
    have HW : Hid (Sb B (bz7 ++ (f.os.take k).flatMap obN) (.slice sx sn sc) wr) := hw
    have HQ : Hid (Bq B AW wr) := hb
    clear hw hb
    have X := HQ.out.k _ _ _ _ AX.out (by decide) (by decide)
    have i6 : wr.cell? ⟨w.heap.size, 6, none⟩ = some (.slice x1 f.os.length p1) := by simp [World.cell?, X]
    have i7 : wr.cell? ⟨w.heap.size, 7, none⟩ = some (.slice x2 f.ls.length p2) := by simp [World.cell?, X]
    clear X
    by_cases hlt : k < f.os.length
    · obtain ⟨a, rfl⟩ := (RO.out wr HQ.out).some (by omega)
      obtain ⟨o, ov, oe, ob, rfl, ok⟩ := (RO.out wr HQ.out).el k hlt
      have e0 := ok.c0
      have e1 := ok.cp 0 _ rfl
      have e2 := ok.cp 1 _ rfl
      have e3 := ok.cp 2 _ rfl
      have e4 := ok.cp 3 _ rfl
      have e5 := ok.cp 4 _ rfl
      have e6 := ok.cp 5 _ rfl
      have e7 := ok.cp 6 _ rfl
      have e8 := ok.cp 7 _ rfl
      have e9 := ok.cp 8 _ rfl
      have OO : Hid (OpOk o) := OK.out.1.2.2.2.2.2.2.1 o (List.mem_of_getElem? oe)
      have TK : Hid (bz7 ++ (f.os.take (k + 1)).flatMap obN = bz7 ++ (f.os.take k).flatMap obN ++ (nsN [o.cd, o.a, o.b, o.c, o.d, o.lo, o.hi] ++ vbN o.vk o.vb o.vs)) := by show _ = _; rw [List.take_add_one, oe, List.flatMap_append]; simp [obN, List.append_assoc]
      have PK := PT.out k
      have LT : Hid (k < f.os.length) := hlt
      have kl : (k : Int) < f.os.length := by omega
      have ek : wrap64 ((k : Int) + 1) = (k : Int) + 1 := by have := N1.out; unfold wrap64; omega
      have za := block_lt_of_cell e0
      obtain ⟨AO, eO⟩ : ∃ AO, AO = wr.alloc (.cells #[.int .i64 o.cd, .int .i64 o.a, .int .i64 o.b, .int .i64 o.c, .int .i64 o.d, .int .i64 o.lo, .int .i64 o.hi, .int .u8 o.vk, .int .u64 o.vb, .string o.vs] 46 (0, 0)) := ⟨_, rfl⟩
      have OX : Hid (AO.heap[wr.heap.size]? = some (.cells #[.int .i64 o.cd, .int .i64 o.a, .int .i64 o.b, .int .i64 o.c, .int .i64 o.d, .int .i64 o.lo, .int .i64 o.hi, .int .u8 o.vk, .int .u64 o.vb, .string o.vs] 46 (0, 0))) := by rw [eO]; exact heap_alloc_last _ _
      have OB : Hid (Below wr.heap.size wr AO) := by rw [eO]; exact (Below.refl _ _).alloc (Nat.le_refl _) _
      obtain ⟨AI, eI⟩ : ∃ AI, AI = AO.alloc (.cells #[.int .i64 o.cd, .int .i64 o.a, .int .i64 o.b, .int .i64 o.c, .int .i64 o.d, .int .i64 o.lo, .int .i64 o.hi] 3 (0, 0)) := ⟨_, rfl⟩
      have IX : Hid (AI.heap[AO.heap.size]? = some (.cells #[.int .i64 o.cd, .int .i64 o.a, .int .i64 o.b, .int .i64 o.c, .int .i64 o.d, .int .i64 o.lo, .int .i64 o.hi] 3 (0, 0))) := by rw [eI]; exact heap_alloc_last _ _
      have IB : Hid (Below AO.heap.size AO AI) := by rw [eI]; exact (Below.refl _ _).alloc (Nat.le_refl _) _
      have QO : Hid (Bq B AW AI) := HQ.out.trans (Bq.up (OB.out.trans (IB.out.mono OB.out.size)) (BQ.out _ HQ.out))
      have SO : Hid (Sb B (bz7 ++ (f.os.take k).flatMap obN) (.slice sx sn sc) AI) := HW.out.below (OB.out.trans (IB.out.mono OB.out.size))
      have OXI : Hid (AI.heap[wr.heap.size]? = some (.cells #[.int .i64 o.cd, .int .i64 o.a, .int .i64 o.b, .int .i64 o.c, .int .i64 o.d, .int .i64 o.lo, .int .i64 o.hi, .int .u8 o.vk, .int .u64 o.vb, .string o.vs] 46 (0, 0))) := (IB.out.block _ (blk_in OX.out)).trans OX.out
      clear hlt oe ob ok hk
      go_upto_region 12 with fail
      rw [← eO]
      clear eO za e0 e1 e2 e3 e4 e5 e6 e7 e8 e9
      have g0 : AO.cell? ⟨wr.heap.size, 0, none⟩ = some (.int .i64 o.cd) := by simp [World.cell?, OX.out]
      have g1 : AO.cell? ⟨wr.heap.size, 1, none⟩ = some (.int .i64 o.a) := by simp [World.cell?, OX.out]
      have g2 : AO.cell? ⟨wr.heap.size, 2, none⟩ = some (.int .i64 o.b) := by simp [World.cell?, OX.out]
      have g3 : AO.cell? ⟨wr.heap.size, 3, none⟩ = some (.int .i64 o.c) := by simp [World.cell?, OX.out]
      have g4 : AO.cell? ⟨wr.heap.size, 4, none⟩ = some (.int .i64 o.d) := by simp [World.cell?, OX.out]
      have g5 : AO.cell? ⟨wr.heap.size, 5, none⟩ = some (.int .i64 o.lo) := by simp [World.cell?, OX.out]
      have g6 : AO.cell? ⟨wr.heap.size, 6, none⟩ = some (.int .i64 o.hi) := by simp [World.cell?, OX.out]
      go_upto_region 13 with fail
      rw [← eI]
      clear eI g0 g1 g2 g3 g4 g5 g6 i6 i7 OX
      generalize bz7 ++ (f.os.take k).flatMap obN = by0 at *
      obtain ⟨is, eis⟩ : ∃ is : List Int, is = [o.cd, o.a, o.b, o.c, o.d, o.lo, o.hi] := ⟨_, rfl⟩
      have ISL : Hid (is.length = 7) := by rw [eis]; rfl
      have ISE : Hid (is = [o.cd, o.a, o.b, o.c, o.d, o.lo, o.hi]) := eis
      have IXS : Hid (∀ V, Bq B AI V → ∀ (j : Nat) z, is[j]? = some z → V.cell? ⟨AO.heap.size, j, none⟩ = some (.int .i64 z)) := fun V hV j z hj => by
        have e := hV.k _ _ _ _ IX.out (by decide) (by decide)
        rw [World.cell?, e]
        rw [eis] at hj
        match j, hj with
        | 0, hj => cases hj; rfl
        | 1, hj => cases hj; rfl
        | 2, hj => cases hj; rfl
        | 3, hj => cases hj; rfl
        | 4, hj => cases hj; rfl
        | 5, hj => cases hj; rfl
        | 6, hj => cases hj; rfl
        | j + 7, hj => simp at hj
      clear eis
      have BQI : Hid (∀ V, Bq B AI V → B ≤ V.heap.size) := fun V hV => Nat.le_trans (BQ.out _ QO.out) hV.b.size
      obtain ⟨WO, eWO⟩ : ∃ W, W = wr := ⟨_, rfl⟩
      subst eWO
      go_upto_region 14 with fail
      go_loopw [0, 8] (fun u i wr => ∃ (j : Nat) (sx : Option Addr) (sn sc : Nat), j ≤ 7 ∧ u = .slice sx sn sc ∧ i = .int .i64 j ∧ Sb B (by0 ++ nsN (is.take j)) (.slice sx sn sc) wr ∧ Bq B AI wr) (fun _ i _ => 7 - (intOf i).toNat)
      case atStart => exact ⟨0, _, _, _, Nat.zero_le _, rfl, rfl, by rw [List.take_zero, nsN_nil, List.append_nil]; exact SO.out, Bq.refl _ _⟩
      case round =>
        obtain ⟨j, zx, zn, zc, hj, rfl, rfl, hw, hb⟩ := hrel
        have HW2 : Hid (Sb B (by0 ++ nsN (is.take j)) (.slice zx zn zc) wr) := hw
        have HQ2 : Hid (Bq B AI wr) := hb
        clear hw hb
        by_cases jlt : j < 7
        · obtain ⟨z, hz⟩ : ∃ z, is[j]? = some z := ⟨_, List.getElem?_eq_getElem (by rw [ISL.out]; exact jlt)⟩
          have c0 := IXS.out wr HQ2.out j z hz
          have NZ : Hid (by0 ++ nsN (is.take (j + 1)) = by0 ++ nsN (is.take j) ++ nbN z) := by show _ = _; rw [nsN_succ hz, List.append_assoc]
          have LZ : Hid ((by0 ++ nsN (is.take j)).length ≤ 7000000000000) := by show _ ≤ _; rw [List.length_append, nsN_len, List.length_take]; omega
          have jl : (j : Int) < 7 := by omega
          have JL : Hid (j < 7) := jlt
          have ej : wrap64 ((j : Int) + 1) = (j : Int) + 1 := by unfold wrap64; omega
          clear jlt hz hj PK
          go_wp2_with (go_at_call 44; refine (numR B _ _ _ _ HW2.out (BQI.out _ HQ2.out) (by have := LZ.out; omega)).mono ?_)
          first | (rintro e w2 ⟨v2, he, h1, hb1⟩; have he' := he) | (rintro e w2 v2 he h1 hb1)
          subst he
          rw [← NZ.out] at h1
          have H2 : Hid (Sb B (by0 ++ nsN (is.take (j + 1))) v2 w2) := h1
          have Q2 : Hid (Bq B AI w2) := HQ2.out.trans hb1
          obtain ⟨ux, un, uc, rfl⟩ := h1.form
          clear h1 hb1 c0
          go_wp2
          try rw [ej]
          exact ⟨⟨j + 1, ux, un, uc, Nat.succ_le_of_lt JL.out, rfl, rfl, H2.out, Q2.out⟩, msrE JL.out⟩
        · have jl : ¬ (j : Int) < 7 := by omega
          have ej : j = 7 := by omega
          subst ej
          have HW3 : Hid (Sb B (by0 ++ nsN [o.cd, o.a, o.b, o.c, o.d, o.lo, o.hi]) (.slice zx zn zc) wr) := by have q := HW2.out; rw [show is.take 7 = is by rw [← ISL.out, List.take_length], ISE.out] at q; exact q
          have LZ : Hid ((by0 ++ nsN [o.cd, o.a, o.b, o.c, o.d, o.lo, o.hi]).length ≤ 7000000000000) := by show _ ≤ _; rw [List.length_append, nsN_len]; simp only [List.length_cons, List.length_nil]; omega
          have X := HQ2.out.k _ _ _ _ OXI.out (by decide) (by decide)
          have g7 : wr.cell? ⟨WO.heap.size, 7, none⟩ = some (.int .u8 o.vk) := by simp [World.cell?, X]
          have g8 : wr.cell? ⟨WO.heap.size, 8, none⟩ = some (.int .u64 o.vb) := by simp [World.cell?, X]
          have g9 : wr.cell? ⟨WO.heap.size, 9, none⟩ = some (.string o.vs) := by simp [World.cell?, X]
          clear X jlt hj PK HW2
          go_wp2_with (go_at_call 46; refine (valueR B _ _ _ _ _ _ HW3.out (BQI.out _ HQ2.out) (by have := LZ.out; omega) OO.out.2.2.2.2.2.2.2.2.2 (wf_u8 OO.out.2.2.2.2.2.2.2.1)).mono ?_)
          first | (rintro e w2 ⟨v2, he, h1, hb1⟩; have he' := he) | (rintro e w2 v2 he h1 hb1)
          subst he
          first | rw [List.append_assoc, ← TK.out] at h1 | rw [← TK.out] at h1
          have H2 : Hid (Sb B (bz7 ++ (f.os.take (k + 1)).flatMap obN) v2 w2) := h1
          have Q2 : Hid (Bq B AW w2) := QO.out.trans (HQ2.out.trans hb1)
          obtain ⟨ux, un, uc, rfl⟩ := h1.form
          clear h1 hb1 g7 g8 g9
          go_wp2
          try rw [ek]
          exact ⟨⟨k + 1, ux, un, uc, Nat.succ_le_of_lt LT.out, rfl, rfl, H2.out, Q2.out⟩, msrE LT.out⟩
    · have kl : ¬ (k : Int) < f.os.length := by omega
      have ek : k = f.os.length := by omega
      subst ek
      have PK := PT.out f.os.length
      rw [List.take_length] at HW PK
      obtain ⟨bz20, e20⟩ : ∃ z, z = bz7 ++ f.os.flatMap obN := ⟨_, rfl⟩
      have E20 : Hid (bz20 = bz7 ++ f.os.flatMap obN) := e20
      obtain ⟨w20, f20⟩ : ∃ z, z = wr := ⟨_, rfl⟩
      have S20 : Hid (Sb B bz20 (.slice sx sn sc) w20) := by rw [e20, f20]; exact HW.out
      have Q20 : Hid (Bq B AW w20) := by rw [f20]; exact HQ.out
      have L20 : Hid (bz20.length ≤ 6068724867128) := by rw [e20]; exact PK
      clear hlt hk HW HQ PK e20 PT S7 L7
      rw [← f20] at i6 i7
      rw [← f20]
      clear f20
      go_wp2_with (go_at_call 44; refine (numR B _ _ _ _ S20.out (BQ.out _ Q20.out) (by have := L20.out; omega)).mono ?_)
      first | (rintro e w21 ⟨v21, he, h1, hb1⟩; have he' := he) | (rintro e w21 v21 he h1 hb1)
      subst he
      have Q21 : Hid (Bq B AW w21) := Q20.out.trans hb1
      obtain ⟨bz21, ez⟩ : ∃ z, z = bz20 ++ nbN f.ls.length := ⟨_, rfl⟩
      rw [← ez] at h1
      have S21 : Hid (Sb B bz21 v21 w21) := h1
      have E21 : Hid (bz21 = bz20 ++ nbN f.ls.length) := ez
      have L21 : Hid (bz21.length ≤ 6068724867136) := by show _ ≤ _; rw [ez, List.length_append, nbN_len]; have := L20.out; omega
      obtain ⟨tx21, tn21, tc21, rfl⟩ := h1.form
      clear h1 hb1 ez i6 i7
      have i6 : True := trivial
      go_upto_region 19 with fail
      go_upto_region 20 with fail
      have PU : Hid (∀ k, (bz21 ++ (f.ls.take k).flatMap lbN).length ≤ 6068725260352) := fun k => by
        have q := flat_le lbN 24 (f.ls.take k) (fun e he => by rw [lbN_len]; omega)
        have q2 : (f.ls.take k).length ≤ 16384 := Nat.le_trans (List.length_take_le' k f.ls) N2.out
        rw [List.length_append]
        have := L21.out
        omega
      go_loopw [0, 9] (fun u i wr => ∃ (k : Nat) (sx : Option Addr) (sn sc : Nat), k ≤ f.ls.length ∧ u = .slice sx sn sc ∧ i = .int .i64 k ∧ Sb B (bz21 ++ (f.ls.take k).flatMap lbN) (.slice sx sn sc) wr ∧ Bq B AW wr) (fun _ i _ => f.ls.length - (intOf i).toNat)
      case atStart => exact ⟨0, _, _, _, Nat.zero_le _, rfl, rfl, by rw [List.take_zero, List.flatMap_nil, List.append_nil]; exact S21.out, Q21.out⟩
      case round =>
        obtain ⟨k, yx, yn, yc, hk, rfl, rfl, hw, hb⟩ := hrel
        obtain ⟨bz40, e40⟩ : ∃ z, z = bz21 ++ (f.ls.take k).flatMap lbN := ⟨_, rfl⟩
        rw [← e40] at hw
        have PK := PU.out k
        rw [← e40] at PK
        have S40 : Hid (Sb B bz40 (.slice yx yn yc) wr) := hw
        have E40 : Hid (bz40 = bz21 ++ (f.ls.take k).flatMap lbN) := e40
        have L40 : Hid (bz40.length ≤ 6068725260352) := PK
        obtain ⟨w40, f40⟩ : ∃ z, z = wr := ⟨_, rfl⟩
        rw [← f40] at hb S40 ⊢
        have Q40 : Hid (Bq B AW w40) := hb
        clear hw hb e40 PK f40
        have X := Q40.out.k _ _ _ _ AX.out (by decide) (by decide)
        have i7 : w40.cell? ⟨w.heap.size, 7, none⟩ = some (.slice x2 f.ls.length p2) := by simp [World.cell?, X]
        clear X
        by_cases hlt : k < f.ls.length
        · obtain ⟨a, rfl⟩ := (RL.out w40 Q40.out).some (by omega)
          obtain ⟨t, tv, te, tb, rfl, tk⟩ := (RL.out w40 Q40.out).el k hlt
          have TC : Hid (∀ V, Bq B AW V → V.cell? (a.add (k * 3)) = some (.int .i64 t.hd) ∧ V.cell? ⟨(a.add (k * 3)).block, (a.add (k * 3)).off + (0 + 1), none⟩ = some (.int .i64 t.en) ∧ V.cell? ⟨(a.add (k * 3)).block, (a.add (k * 3)).off + (1 + 1), none⟩ = some (.int .i64 t.tm)) := fun V hV => by
            obtain ⟨t', tv', te', tb', rfl, tk'⟩ := (RL.out V hV).el k hlt
            obtain rfl : t = t' := by rw [te] at te'; cases te'; rfl
            exact ⟨tk'.c0, tk'.cp 0 _ rfl, tk'.cp 1 _ rfl⟩
          have TK : Hid (bz21 ++ (f.ls.take (k + 1)).flatMap lbN = bz40 ++ nbN t.hd ++ nbN t.en ++ nbN t.tm) := by show _ = _; rw [E40.out, List.take_add_one, te, List.flatMap_append]; simp [lbN, nsN_cons, nsN_nil, List.append_assoc]
          have LT : Hid (k < f.ls.length) := hlt
          have kl : (k : Int) < f.ls.length := by omega
          have ek : wrap64 ((k : Int) + 1) = (k : Int) + 1 := by have := N2.out; unfold wrap64; omega
          clear hlt te tb tk hk
          have c0 := (TC.out w40 Q40.out).1
          go_wp2_with (go_at_call 44; refine (numR B _ _ _ _ S40.out (BQ.out _ Q40.out) (by have := L40.out; omega)).mono ?_)
          first | (rintro e w41 ⟨v41, he, h1, hb1⟩; have he' := he) | (rintro e w41 v41 he h1 hb1)
          subst he
          have Q41 : Hid (Bq B AW w41) := Q40.out.trans hb1
          obtain ⟨bz41, ez⟩ : ∃ z, z = bz40 ++ nbN t.hd := ⟨_, rfl⟩
          rw [← ez] at h1
          have S41 : Hid (Sb B bz41 v41 w41) := h1
          have E41 : Hid (bz41 = bz40 ++ nbN t.hd) := ez
          have L41 : Hid (bz41.length ≤ 6068725260360) := by show _ ≤ _; rw [ez, List.length_append, nbN_len]; have := L40.out; omega
          obtain ⟨tx41, tn41, tc41, rfl⟩ := h1.form
          clear h1 hb1 ez i7 c0
          have X := Q41.out.k _ _ _ _ AX.out (by decide) (by decide)
          have i7 : w41.cell? ⟨w.heap.size, 7, none⟩ = some (.slice (some a) f.ls.length p2) := by simp [World.cell?, X]
          clear X
          have c0 := (TC.out w41 Q41.out).2.1
          go_wp2_with (go_at_call 44; refine (numR B _ _ _ _ S41.out (BQ.out _ Q41.out) (by have := L41.out; omega)).mono ?_)
          first | (rintro e w42 ⟨v42, he, h1, hb1⟩; have he' := he) | (rintro e w42 v42 he h1 hb1)
          subst he
          have Q42 : Hid (Bq B AW w42) := Q41.out.trans hb1
          obtain ⟨bz42, ez⟩ : ∃ z, z = bz41 ++ nbN t.en := ⟨_, rfl⟩
          rw [← ez] at h1
          have S42 : Hid (Sb B bz42 v42 w42) := h1
          have E42 : Hid (bz42 = bz41 ++ nbN t.en) := ez
          have L42 : Hid (bz42.length ≤ 6068725260368) := by show _ ≤ _; rw [ez, List.length_append, nbN_len]; have := L41.out; omega
          obtain ⟨tx42, tn42, tc42, rfl⟩ := h1.form
          clear h1 hb1 ez i7 c0
          have X := Q42.out.k _ _ _ _ AX.out (by decide) (by decide)
          have i7 : w42.cell? ⟨w.heap.size, 7, none⟩ = some (.slice (some a) f.ls.length p2) := by simp [World.cell?, X]
          clear X
          have c0 := (TC.out w42 Q42.out).2.2
          go_wp2_with (go_at_call 44; refine (numR B _ _ _ _ S42.out (BQ.out _ Q42.out) (by have := L42.out; omega)).mono ?_)
          first | (rintro e w43 ⟨v43, he, h1, hb1⟩; have he' := he) | (rintro e w43 v43 he h1 hb1)
          subst he
          have Q43 : Hid (Bq B AW w43) := Q42.out.trans hb1
          obtain ⟨bz43, ez⟩ : ∃ z, z = bz42 ++ nbN t.tm := ⟨_, rfl⟩
          rw [← ez] at h1
          have S43 : Hid (Sb B bz43 v43 w43) := h1
          have E43 : Hid (bz43 = bz42 ++ nbN t.tm) := ez
          have L43 : Hid (bz43.length ≤ 6068725260376) := by show _ ≤ _; rw [ez, List.length_append, nbN_len]; have := L42.out; omega
          obtain ⟨tx43, tn43, tc43, rfl⟩ := h1.form
          clear h1 hb1 ez i7 c0
          have HF : Hid (Sb B (bz21 ++ (f.ls.take (k + 1)).flatMap lbN) (.slice tx43 tn43 tc43) w43) := by have q := S43.out; rw [E43.out, E42.out, E41.out, ← TK.out] at q; exact q
          go_wp2
          try rw [ek]
          exact ⟨⟨k + 1, tx43, tn43, tc43, Nat.succ_le_of_lt LT.out, rfl, rfl, HF.out, Q43.out⟩, msrE LT.out⟩
        · have kl : ¬ (k : Int) < f.ls.length := by omega
          have ek : k = f.ls.length := by omega
          subst ek
          have HF : Hid (Sb B (bs ++ flbN f) (.slice yx yn yc) w40) := by
            have q := S40.out
            rw [E40.out, List.take_length, E21.out, E20.out, PF.out] at q
            show Sb _ _ _ _
            unfold flbN lsN
            simpa only [List.append_assoc] using q
          clear hlt hk
          go_wp2
          go_ret
          exact ⟨_, rfl, HF.out, QA.out.trans Q40.out⟩
end Go.Proofs.YtdcjngakmkgbmaaGreat
