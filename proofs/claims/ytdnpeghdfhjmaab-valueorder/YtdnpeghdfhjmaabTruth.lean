/- What the statement's truth answers, and how two values of one kind lie to one another; no statement of the seat is proved here. -/
import Derived.Test.YtdnpeghdfhjmaabRecC
namespace Go.Proofs.Ytdnpeghdfhjmaab
set_option linter.unusedVariables false
open Go.RowKit
section
variable (op k b k' c : Int) (s t : ByteArray) (w : World)
theorem below_res {w w1 : World} {x y z : Obj} (hb : Below ((w.alloc x).alloc y).heap.size ((w.alloc x).alloc y) w1) : Below w.heap.size w (w1.alloc z) := by
  have hs := hb.size
  simp only [World.size_alloc] at hs
  exact ((((Below.refl _ _).alloc (Nat.le_refl _) _).alloc (by simp) _).trans (hb.mono (by simp; omega))).alloc (by omega) _
set_option maxHeartbeats 1000000 in
theorem truth_no (R : ∀ w, Calls Try.prog 9 #[.int .i64 op, V k b s, V k' c t] w fun e w' => e = .returned (.tuple #[V 0 0 E0, .int .i64 8]) ∧ Below w.heap.size w w') :
    Calls Try.prog 5 #[.int .i64 op, V k b s, V k' c t] w fun e w' => e = .returned (.tuple #[.bool false, .bool false]) ∧ Below w.heap.size w w' := by
  have R' : Hid _ := R
  clear R
  go_enter Try.func5, Try.ntmps5
  go_wp2_with fail
  refine (R'.out _).mono ?_
  rintro e w1 ⟨rfl, hb⟩
  go_wp2
  go_quiet (fail)
  go_wp2
  go_ret2
  exact ⟨rfl, below_drewN (below_res hb) _⟩
set_option maxHeartbeats 1000000 in
theorem truth_yes (p : Bool) (R : ∀ w, Calls Try.prog 9 #[.int .i64 op, V k b s, V k' c t] w fun e w' => e = .returned (.tuple #[V 1 (tb p) E0, .int .i64 0]) ∧ Below w.heap.size w w') :
    Calls Try.prog 5 #[.int .i64 op, V k b s, V k' c t] w fun e w' => e = .returned (.tuple #[.bool p, .bool true]) ∧ Below w.heap.size w w' := by
  cases p
  · have R' : Hid (∀ w, Calls Try.prog 9 #[.int .i64 op, V k b s, V k' c t] w fun e w' => e = .returned (.tuple #[V 1 0 E0, .int .i64 0]) ∧ Below w.heap.size w w') := R
    clear R
    go_enter Try.func5, Try.ntmps5
    go_wp2_with fail
    refine (R'.out _).mono ?_
    rintro e w1 ⟨rfl, hb⟩
    go_wp2
    go_quiet (fail)
    go_wp2
    go_ret2
    exact ⟨rfl, below_drewN (below_res hb) _⟩
  · have R' : Hid (∀ w, Calls Try.prog 9 #[.int .i64 op, V k b s, V k' c t] w fun e w' => e = .returned (.tuple #[V 1 1 E0, .int .i64 0]) ∧ Below w.heap.size w w') := R
    clear R
    go_enter Try.func5, Try.ntmps5
    go_wp2_with fail
    refine (R'.out _).mono ?_
    rintro e w1 ⟨rfl, hb⟩
    go_wp2
    go_quiet (fail)
    go_wp2
    go_ret2
    exact ⟨rfl, below_drewN (below_res hb) _⟩
end
theorem less_self : ∀ l : List UInt8, Op.bytesLess l l = false
  | [] => rfl
  | x :: r => by
    simp only [Op.bytesLess]
    have := less_self r
    simp [this]
theorem order_none (n m : Nat) (h : fnan n = true ∨ fnan m = true) : FloatKind.f64.format.order n m = none := by
  unfold Ieee.Format.order
  rcases h with h | h
  · rcases read_cases n with ⟨_, _, e, g⟩ | ⟨e, g⟩ | ⟨f, e, g⟩
    · simp [fnan] at h; omega
    · simp [fnan] at h; omega
    · rw [e]; cases FloatKind.f64.format.read m <;> rfl
  · rcases read_cases m with ⟨_, _, e, g⟩ | ⟨e, g⟩ | ⟨f, e, g⟩
    · simp [fnan] at h; omega
    · simp [fnan] at h; omega
    · rw [e]; cases FloatKind.f64.format.read n <;> rfl
theorem order_some (n m : Nat) (h : fnan n = false) (g : fnan m = false) : ∃ o, FloatKind.f64.format.order n m = some o := by
  unfold Ieee.Format.order
  rcases read_cases n with ⟨_, _, e, g1⟩ | ⟨e, g1⟩ | ⟨f, e, g1⟩
  · rcases read_cases m with ⟨_, _, e', g2⟩ | ⟨e', g2⟩ | ⟨f', e', g2⟩
    · rw [e, e']; exact ⟨_, rfl⟩
    · rw [e, e']; exact ⟨_, rfl⟩
    · simp [fnan] at g; omega
  · rcases read_cases m with ⟨_, _, e', g2⟩ | ⟨e', g2⟩ | ⟨f', e', g2⟩
    · rw [e, e']; exact ⟨_, rfl⟩
    · rw [e, e']; exact ⟨_, rfl⟩
    · simp [fnan] at g; omega
  · simp [fnan] at h; omega
/-- With the NaN none of the three holds. -/
theorem with_nan (b c : Int) (s t : ByteArray) (h : b = 9221120237041090561 ∨ c = 9221120237041090561) : cL 18 b c s t = false ∧ cE 18 b c s t = false ∧ cM 18 b c s t = false := by
  have : FloatKind.f64.format.order b.toNat c.toNat = none := order_none _ _ (by rcases h with rfl | rfl; exact .inl (by decide); exact .inr (by decide))
  simp [cL, cE, cM, this]
/-- Else just one does. -/
theorem just_one (k b c : Int) (s t : ByteArray) (m : may3 k b s = true) (n : may3 k c t = true) (h : ¬ (k = 18 ∧ (b = 9221120237041090561 ∨ c = 9221120237041090561))) :
    (cL k b c s t = true ∧ cE k b c s t = false ∧ cM k b c s t = false) ∨ (cL k b c s t = false ∧ cE k b c s t = true ∧ cM k b c s t = false) ∨ (cL k b c s t = false ∧ cE k b c s t = false ∧ cM k b c s t = true) := by
  by_cases k1 : k = 19
  · subst k1
    by_cases e : s.toList = t.toList
    · simp [cL, cE, cM, e, less_self]
    · cases l : Op.bytesLess s.toList t.toList <;> simp [cL, cE, cM, e, l]
  by_cases k2 : k = 18
  · subst k2
    have mb := (may_w m (by omega)).1
    have mc := (may_w n (by omega)).1
    rw [mw18] at mb mc
    have hb : fnan b.toNat = false := by
      by_cases e : b = 9221120237041090561
      · exact absurd ⟨rfl, .inl e⟩ h
      · simpa [e] using mb
    have hc : fnan c.toNat = false := by
      by_cases e : c = 9221120237041090561
      · exact absurd ⟨rfl, .inr e⟩ h
      · simpa [e] using mc
    obtain ⟨o, e⟩ := order_some _ _ hb hc
    cases o <;> simp [cL, cE, cM, e]
  · simp only [cL, cE, cM, k1, k2, if_false]
    unfold cmpI
    by_cases a : num k b < num k c
    · simp [a]
    · by_cases d : num k c < num k b
      · simp [a, d]
      · simp [a, d]
end Go.Proofs.Ytdnpeghdfhjmaab
