/- The document's image: may a cell be; no statement of the seat is proved here. -/
import Derived.Test.YtpcjnhffpkpchaaGreatCrAY
import Derived.Test.YtpcjnhffpkpchaaGreatLexIY
import Derived.Test.YtpcjnhffpkpchaaGreatFitRY
import Derived.Deep.DeepCutAuto
import Derived.Deep.RegionHeld3
namespace Go.Proofs.YtpcjnhffpkpchaaGreat
set_option linter.unusedVariables false
open Go.RowKit
theorem bdN {B : Nat} {a w : World} (h : Below B a w) (n : Nat) : Below B a (w.drewN n) := ⟨h.os, h.tape, h.output, h.size, h.block⟩
theorem ceAt_k {l : List CeR} {i : Nat} {c : CeR} (h : l[i]? = some c) : ceAt l i = (ceB c && (emB c.ad || (l.take i).all (fun x => decide (¬ x.ad = c.ad)))) := by
  unfold ceAt
  rw [h]
def c1B (kd : Int) (sb : Bool) (lo hi : Int) : Bool := decide ((1 ≤ kd ∧ kd ≤ 20) ∧ (sb = true → (2 ≤ kd ∧ kd ≤ 9) ∧ lo ≤ hi) ∧ (sb = false → lo = 0 ∧ hi = 0))
def c2B (kd mx ik : Int) : Bool := decide (ik = kd ∧ (kd = 19 → 0 ≤ mx ∧ mx ≤ 254) ∧ (¬ kd = 19 → mx = 0))
theorem inB_d (a b x : Int) : inB a b x = decide (a ≤ x ∧ x ≤ b) := by unfold inB; by_cases h : a ≤ x <;> by_cases g : x ≤ b <;> simp [h, g]
theorem bd_split (c : CeR) : (inB 1 20 c.kd && bdB c && decide (c.ik = c.kd)) = (c1B c.kd c.sb c.lo c.hi && c2B c.kd c.mx c.ik) := by
  unfold bdB c1B c2B
  rw [inB_d, inB_d, inB_d]
  rw [Bool.eq_iff_iff]
  cases hs : c.sb <;> by_cases h9 : c.kd = 19 <;> simp [h9] <;> omega
theorem ik_kd {c : CeR} (h : bgB c = true) : c.ik = c.kd := by
  unfold bgB at h
  by_cases q : c.kd = 20
  · rw [if_pos q] at h
    unfold nwB at h
    simp only [Bool.and_eq_true, decide_eq_true_eq] at h
    rw [q, h.1.1]
  · rw [if_neg q] at h
    have h' := of_decide_eq_true h
    unfold fitsF at h'
    by_cases e : c.ik = c.kd
    · exact e
    · rw [if_pos (Or.inr e)] at h'; exact absurd h' (by decide)
theorem ce_c1 {c : CeR} (h : c1B c.kd c.sb c.lo c.hi = false) : ceB c = false := by
  cases q : ceB c
  · rfl
  unfold ceB at q
  simp only [Bool.and_eq_true] at q
  have := bd_split c
  rw [h, q.1.1.1.1, q.1.1.2, ik_kd q.1.2] at this
  simp at this
theorem ce_c2 {c : CeR} (h : c2B c.kd c.mx c.ik = false) : ceB c = false := by
  cases q : ceB c
  · rfl
  unfold ceB at q
  simp only [Bool.and_eq_true] at q
  have := bd_split c
  rw [h, q.1.1.1.1, q.1.1.2, ik_kd q.1.2] at this
  simp at this
theorem ce_ref {c : CeR} (q : c.kd = 20) (h : ¬ (c.ib = 0 ∧ emB c.is = true ∧ c.kp = false)) : ceB c = false := by
  cases p : ceB c
  · rfl
  unfold ceB at p
  simp only [Bool.and_eq_true] at p
  have b := p.1.2
  unfold bgB nwB at b
  rw [if_pos q] at b
  simp only [Bool.and_eq_true, decide_eq_true_eq] at b
  exact absurd ⟨b.1.2, b.2, by have := p.1.1.1.2; rw [decide_eq_true q, Bool.true_and] at this; simpa using this⟩ h
theorem ce_fit {c : CeR} (q : ¬ c.kd = 20) (h : ¬ fitsF c.ik c.ib c.is c.kd c.sb c.lo c.hi c.mx = 0) : ceB c = false := by
  cases p : ceB c
  · rfl
  unfold ceB at p
  simp only [Bool.and_eq_true] at p
  have b := p.1.2
  unfold bgB at b
  rw [if_neg q] at b
  exact absurd (of_decide_eq_true b) h
theorem ce_on {c : CeR} (h1 : c1B c.kd c.sb c.lo c.hi = true) (h2 : c2B c.kd c.mx c.ik = true) (h3 : c.kd = 20 → c.ib = 0 ∧ emB c.is = true ∧ c.kp = false) (h4 : ¬ c.kd = 20 → fitsF c.ik c.ib c.is c.kd c.sb c.lo c.hi c.mx = 0) : ceB c = liB c := by
  have s := bd_split c
  rw [h1, h2] at s
  simp only [Bool.and_self, Bool.and_eq_true, decide_eq_true_eq] at s
  unfold ceB bgB nwB
  rw [s.1.1, s.1.2]
  by_cases q : c.kd = 20
  · obtain ⟨a, b, d⟩ := h3 q
    rw [if_pos q, s.2, q, a, b, d]
    simp
  · rw [if_neg q, h4 q, decide_eq_false q]
    simp
end Go.Proofs.YtpcjnhffpkpchaaGreat
