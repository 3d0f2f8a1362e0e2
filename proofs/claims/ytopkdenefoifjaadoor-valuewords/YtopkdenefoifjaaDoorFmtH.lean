/- What strconv.FormatUint answers at base 16: the number's digits; no statement of the seat is proved here. -/
import Derived.Test.YtopkdenefoifjaaDoorHexP
import Derived.Test.YtopkdenefoifjaaDoorRows
import Derived.Lib.ItoaMem
import Derived.Lib.ItoaWalk
import Derived.Lib.Walk
import Derived.WalkKit
import Derived.WalkSpells
import Derived.WalkLawsBesides
import Derived.Handy
import Derived.Deep.Light
namespace Go.Proofs.YtopkdenefoifjaaDoor
set_option linter.unusedVariables false
open Go.RowKit Go.Sort Go.Lib
/-- The digits of strconv. -/
def dgS : ByteArray := ⟨#[48, 49, 50, 51, 52, 53, 54, 55, 56, 57, 97, 98, 99, 100, 101, 102, 103, 104, 105, 106, 107, 108, 109, 110, 111, 112, 113, 114, 115, 116, 117, 118, 119, 120, 121, 122]⟩
theorem idx_dgS {P : Program} (t : TypeId) (ht : P.underlying t = some .string) (k : IntKind) (z : Int) (i : Nat) (hz : z = (i : Int)) (hi : i < 16) (w : World) :
    (Instr.index t (.string dgS) (.int k z)).run P w = .ok (.int .u8 ((hxd i).toNat : Int)) w := by
  subst hz
  have hsz : dgS.size = 36 := rfl
  rw [run_index_string w t dgS k _ ht, dif_pos ⟨by omega, by omega⟩]
  have e : ((i : Int)).toNat = i := by omega
  have : ∀ d : Fin 16, dgS.data.toList[d.val]? = some (hxd d.val) := by decide
  have h := this ⟨i, hi⟩
  simp only [e]
  congr 4
  have h2 : dgS.data[i]? = some (hxd i) := by simpa using h
  rw [Array.getElem?_eq_getElem (by show i < 36; omega)] at h2
  exact Option.some.inj h2
/-- A row of 65 bytes whose places from n on hold the last digits of u, v being what is left. -/
structure HexInv (u n v : Nat) (d : Array UInt8) : Prop where
  size : d.size = 65
  le : n ≤ 65
  rest : v = u / 16 ^ (65 - n)
  done : ∀ t, n ≤ t → t < 65 → d[t]! = hxd (u / 16 ^ (64 - t) % 16)
theorem HexInv.step {u n v : Nat} {d : Array UInt8} (h : HexInv u (n + 1) v d) : HexInv u n (v / 16) (d.setIfInBounds n (hxd (v % 16))) := by
  have e : 65 - n = (65 - (n + 1)) + 1 := by have := h.le; omega
  refine ⟨by simp [h.size], by have := h.le; omega, ?_, fun t h1 h2 => ?_⟩
  · rw [h.rest, Nat.div_div_eq_div_mul, e, Nat.pow_succ]
  · by_cases c : t = n
    · subst c
      have hs : t < d.size := by rw [h.size]; exact h2
      rw [getElem!_pos _ t (by simpa using hs)]
      simp [h.rest, show 65 - (t + 1) = 64 - t by omega]
    · have := h.done t (by omega) h2
      have hs : t < d.size := by rw [h.size]; exact h2
      rw [getElem!_pos _ t (by simpa using hs), Array.getElem_setIfInBounds_ne (h := fun q => c q.symm)]
      rwa [getElem!_pos _ t hs] at this
theorem hexDig_at (u : Nat) : ∀ j, j < (hexDig u).length → (hexDig u)[j]? = some (hxd (u / 16 ^ ((hexDig u).length - 1 - j) % 16)) := by
  induction u using Nat.strongRecOn with
  | ind u ih =>
    rw [hexDig]
    by_cases h : u < 16
    · rw [if_pos h]; intro j hj; simp at hj; subst hj; simp [Nat.mod_eq_of_lt h]
    · rw [if_neg h]; intro j hj
      rw [List.length_append, List.length_singleton] at hj ⊢
      by_cases c : j < (hexDig (u / 16)).length
      · rw [List.getElem?_append_left c, ih (u / 16) (by omega) j c]
        rw [Nat.div_div_eq_div_mul, ← Nat.pow_succ']
        rw [show (hexDig (u / 16)).length + 1 - 1 - j = ((hexDig (u / 16)).length - 1 - j).succ by omega]
      · have : j = (hexDig (u / 16)).length := by omega
        subst this
        simp
/-- The row from n on is the number's digits, where nothing is left. -/
theorem HexInv.fin {u n v : Nat} {d : Array UInt8} (h : HexInv u n v d) (hl : 65 - n = (hexDig u).length) (j : Nat) (hj : j < (hexDig u).length) : (hexDig u)[j]? = some d[n + j]! := by
  rw [hexDig_at u j hj, h.done (n + j) (by omega) (by omega)]
  congr 3
  have : (hexDig u).length - 1 - j = 64 - (n + j) := by omega
  rw [this]
theorem hex_len_of (u i : Nat) (hz : u / 16 ^ (i + 1) = 0) (hn : i = 0 ∨ u / 16 ^ i ≠ 0) : (hexDig u).length = i + 1 := by
  obtain ⟨a, b, c, d⟩ := hexDig_len u
  have p : ∀ k, 0 < 16 ^ k := fun k => Nat.pow_pos (by omega)
  have h1 : u < 16 ^ (i + 1) := (Nat.div_eq_zero_iff.mp hz).resolve_left (by have := p (i + 1); omega)
  have le1 : (hexDig u).length ≤ i + 1 := by
    by_cases g : (hexDig u).length ≤ i + 1
    · exact g
    · by_cases z : u = 0
      · have := d z; omega
      · have c := c z
        have : 16 ^ (i + 1) ≤ 16 ^ ((hexDig u).length - 1) := Nat.pow_le_pow_right (by omega) (by omega)
        omega
  rcases hn with rfl | hn
  · omega
  · by_cases g : i + 1 ≤ (hexDig u).length
    · omega
    · exfalso; apply hn
      exact Nat.div_eq_of_lt (Nat.lt_of_lt_of_le b (Nat.pow_le_pow_right (by omega) (by omega)))
end Go.Proofs.YtopkdenefoifjaaDoor
