/- The calendar: days of years and months, plainly; no statement of the seat is proved here. -/
import Derived.Test.YtpdnlojennhmpaaDoorRows
namespace Go.Proofs.YtpdnlojennhmpaaDoor.Cal
set_option linter.unusedVariables false
def leapB (y : Int) : Bool := decide (y % 4 = 0 ∧ y % 100 ≠ 0 ∨ y % 400 = 0)
def yl (y : Int) : Int := if leapB y then 366 else 365
def dim (y m : Int) : Int :=
  if m = 2 then (if leapB y then 29 else 28) else if m = 4 ∨ m = 6 ∨ m = 9 ∨ m = 11 then 30 else 31
def ycum : Nat → Int
  | 0 => 0
  | k + 1 => ycum k + yl (1970 + k)
def mcum (y : Int) : Nat → Int
  | 0 => 0
  | k + 1 => mcum y k + dim y (k + 1)
theorem yl_bd (y : Int) : 365 ≤ yl y ∧ yl y ≤ 366 := by unfold yl; split <;> omega
theorem dim_bd (y m : Int) : 28 ≤ dim y m ∧ dim y m ≤ 31 := by
  unfold dim; split
  · split <;> omega
  · split <;> omega
theorem ycum_bd (k : Nat) : 365 * (k : Int) ≤ ycum k ∧ ycum k ≤ 366 * k := by
  induction k with
  | zero => simp [ycum]
  | succ k ih => have := yl_bd (1970 + k); simp only [ycum]; omega
theorem mcum_bd (y : Int) (k : Nat) : 28 * (k : Int) ≤ mcum y k ∧ mcum y k ≤ 31 * k := by
  induction k with
  | zero => simp [mcum]
  | succ k ih => have := dim_bd y (k + 1); simp only [mcum]; omega
theorem mcum_year (y : Int) : mcum y 12 = yl y := by
  cases h : leapB y <;> simp [mcum, dim, yl, h]
theorem ycum_mono (a b : Nat) (h : a ≤ b) : ycum a ≤ ycum b := by
  induction b with
  | zero => have : a = 0 := by omega
            subst this; exact Int.le_refl _
  | succ b ih =>
    by_cases e : a = b + 1
    · subst e; exact Int.le_refl _
    · have := ih (by omega); have := yl_bd (1970 + b); simp only [ycum]; omega
theorem mcum_mono (y : Int) (a b : Nat) (h : a ≤ b) : mcum y a ≤ mcum y b := by
  induction b with
  | zero => have : a = 0 := by omega
            subst this; exact Int.le_refl _
  | succ b ih =>
    by_cases e : a = b + 1
    · subst e; exact Int.le_refl _
    · have := ih (by omega); have := dim_bd y (b + 1); simp only [mcum]; omega
theorem ycum_all : ycum 230 = 84006 := by decide +kernel
/-- y years behind 1970, m whole months, d days. -/
structure At (n : Int) (k m : Nat) (d : Int) : Prop where
  hm : m < 12
  lo : 0 ≤ d
  hi : d < dim (1970 + k) (m + 1)
  sum : n = ycum k + mcum (1970 + k) m + d
theorem At.year {n : Int} {k m : Nat} {d : Int} (h : At n k m d) : ycum k ≤ n ∧ n < ycum (k + 1) := by
  have a := mcum_bd (1970 + k) m
  have b := mcum_mono (1970 + k) (m + 1) 12 (by have := h.hm; omega)
  have c := mcum_year (1970 + k)
  have e := h.sum
  have lo := h.lo
  have hi := h.hi
  simp only [ycum, mcum] at *
  omega
theorem At.unique {n : Int} {k m k' m' : Nat} {d d' : Int} (h : At n k m d) (h' : At n k' m' d') : k = k' ∧ m = m' ∧ d = d' := by
  have y := h.year
  have y' := h'.year
  have hk : k = k' := by
    rcases Nat.lt_trichotomy k k' with g | g | g
    · have := ycum_mono (k + 1) k' g; omega
    · exact g
    · have := ycum_mono (k' + 1) k g; omega
  subst hk
  have e := h.sum
  have e' := h'.sum
  have l := h.lo
  have l' := h'.lo
  have i := h.hi
  have i' := h'.hi
  have hm : m = m' := by
    rcases Nat.lt_trichotomy m m' with g | g | g
    · have := mcum_mono (1970 + k) (m + 1) m' g; simp only [mcum] at this; omega
    · exact g
    · have := mcum_mono (1970 + k) (m' + 1) m g; simp only [mcum] at this; omega
  subst hm
  exact ⟨rfl, rfl, by omega⟩
end Go.Proofs.YtpdnlojennhmpaaDoor.Cal
