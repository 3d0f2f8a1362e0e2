/- Two images compared; no statement of the seat is proved here. -/
import Derived.Test.YtkickdmomompjaaGreatImEK
namespace Go.Proofs.YtkickdmomompjaaGreat
set_option linter.unusedVariables false
open Go.RowKit
theorem img_dec (m m' : ImR) : decide (m = m') = (decide (m.nm = m'.nm) && decide (m.cs = m'.cs) && decide (m.fs = m'.fs) && decide (m.js = m'.js)) := by
  rw [← Bool.decide_and, ← Bool.decide_and, ← Bool.decide_and]
  apply decide_eq_decide.2
  constructor
  · intro e; rw [e]; exact ⟨⟨⟨rfl, rfl⟩, rfl⟩, rfl⟩
  · rintro ⟨⟨⟨h1, h2⟩, h3⟩, h4⟩
    cases m
    cases m'
    simp_all
set_option maxHeartbeats 4000000 in
theorem SameI_im (m m' : ImR) (x1 x2 x3 y1 y2 y3 : Option Addr) (c1 c2 c3 d1 d2 d3 : Nat) (w : World) {S : Nat → Prop} (hS : ∀ b, S b → b < w.heap.size) (ha : ImQ S w m x1 x2 x3) (hb : ImQ S w m' y1 y2 y3) :
    Calls Tryz.prog 9 #[.agg #[.string m.nm, .slice x1 m.cs.length c1, .slice x2 m.fs.length c2, .slice x3 m.js.length c3], .agg #[.string m'.nm, .slice y1 m'.cs.length d1, .slice y2 m'.fs.length d2, .slice y3 m'.js.length d3]] w fun e w' => e = .returned (.bool (decide (m = m'))) ∧ Below w.heap.size w w' := by
  have FR : ∀ W, Below w.heap.size w W → FrS S w W := fun W hb q hq => hb.cell (hS _ hq)
  have SS : ∀ W, Below w.heap.size w W → ∀ b, S b → b < W.heap.size := fun W hb b h => Nat.lt_of_lt_of_le (hS b h) hb.size
  have Q1 : Hid (∀ W, Below w.heap.size w W → Calls Tryz.prog 18 #[.slice x1 m.cs.length c1, .slice y1 m'.cs.length d1] W fun e w' => e = .returned (.bool (decide (m.cs = m'.cs))) ∧ Below W.heap.size W w') := fun W h => EqualC _ _ _ _ _ _ _ (SS W h) (ha.fr (FR W h)).1 (hb.fr (FR W h)).1
  have Q2 : Hid (∀ W, Below w.heap.size w W → Calls Tryz.prog 21 #[.slice x2 m.fs.length c2, .slice y2 m'.fs.length d2, .func (.func 22) #[] #[]] W fun e w' => e = .returned (.bool (decide (m.fs = m'.fs))) ∧ Below W.heap.size W w') := fun W h => EqualFF _ _ _ _ _ _ _ (SS W h) (ha.fr (FR W h)).2.1 (hb.fr (FR W h)).2.1
  have Q3 : Hid (∀ W, Below w.heap.size w W → Calls Tryz.prog 23 #[.slice x3 m.js.length c3, .slice y3 m'.js.length d3, .func (.func 24) #[] #[]] W fun e w' => e = .returned (.bool (decide (m.js = m'.js))) ∧ Below W.heap.size W w') := fun W h => EqualFJ _ _ _ _ _ _ _ (SS W h) (ha.fr (FR W h)).2.2 (hb.fr (FR W h)).2.2
  clear ha hb hS FR SS
  have GQ : Hid (∀ X Y : Obj, Below w.heap.size w ((w.alloc X).alloc Y)) := fun X Y => GR w X Y
  rw [img_dec]
  generalize decide (m.cs = m'.cs) = r1 at *
  generalize decide (m.fs = m'.fs) = r2 at *
  generalize decide (m.js = m'.js) = r3 at *
  obtain ⟨nm, cs, fs, js⟩ := m
  obtain ⟨nm', cs', fs', js'⟩ := m'
  simp only at Q1 Q2 Q3 ⊢
  by_cases E0 : nm = nm'
  case neg =>
    have q1 : (nm.toList == nm'.toList) = false := by apply Bool.eq_false_iff.2; intro q; exact E0 (ba_ext (by simpa using q))
    have ed : decide (nm = nm') = false := decide_eq_false E0
    clear E0
    rw [ed]
    clear ed
    go_enter Tryz.func9, Tryz.ntmps9
    go_wp2
    go_ret
    exact ⟨rfl, GQ.out _ _⟩
  subst E0
  rw [decide_eq_true rfl]
  go_enter Tryz.func9, Tryz.ntmps9
  go_wp2_with fail
  refine (Q1.out _ (GQ.out _ _)).mono ?_
  rintro e w1 ⟨rfl, hb⟩
  have X1 := (hb.block w.heap.size (by simp; omega)).trans (two_at w _ _).1
  have Y1 := (hb.block (w.heap.size + 1) (by simp)).trans (two_at w _ _).2
  have k1 : w1.cell? ⟨w.heap.size, 2, none⟩ = some (.slice x2 fs.length c2) := by simp [World.cell?, X1]
  have k2 : w1.cell? ⟨w.heap.size + 1, 2, none⟩ = some (.slice y2 fs'.length d2) := by simp [World.cell?, Y1]
  have XX : Hid _ := X1
  have YY : Hid _ := Y1
  have s1 : w.heap.size + 2 ≤ w1.heap.size := by have := hb.size; simp at this; omega
  have B1 : Hid (Below w.heap.size w w1) := (GQ.out _ _).trans (hb.mono (GQ.out _ _).size)
  clear hb X1 Y1
  cases r1
  · go_wp2
    go_ret
    exact ⟨by simp, B1.out⟩
  · go_wp2_with fail
    refine (Q2.out _ B1.out).mono ?_
    rintro e w2 ⟨rfl, hb⟩
    have B2 : Hid (Below w.heap.size w w2) := B1.out.trans (hb.mono B1.out.size)
    have X2 := (hb.block w.heap.size (by omega)).trans XX.out
    have Y2 := (hb.block (w.heap.size + 1) (by omega)).trans YY.out
    have k3 : w2.cell? ⟨w.heap.size, 3, none⟩ = some (.slice x3 js.length c3) := by simp [World.cell?, X2]
    have k4 : w2.cell? ⟨w.heap.size + 1, 3, none⟩ = some (.slice y3 js'.length d3) := by simp [World.cell?, Y2]
    clear hb X2 Y2 XX YY k1 k2
    cases r2
    · go_wp2
      go_ret
      exact ⟨by simp, B2.out⟩
    · go_wp2_with fail
      refine (Q3.out _ B2.out).mono ?_
      rintro e w3 ⟨rfl, hb⟩
      have B3 : Hid (Below w.heap.size w w3) := B2.out.trans (hb.mono B2.out.size)
      clear hb
      cases r3
      all_goals
        go_wp2
        go_ret
        exact ⟨by simp, B3.out⟩
end Go.Proofs.YtkickdmomompjaaGreat
