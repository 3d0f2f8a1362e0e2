/- st's sameness of expressions, step by step; no statement of the seat is proved here. -/
import Derived.Test.YtcoeinfopfcekaaTrD
namespace Go.Proofs.Ytcoeinfopfcekaa
set_option linter.unusedVariables false
open Go.RowKit
abbrev VV (k b : Int) (s : ByteArray) : Value := .agg #[.int .u8 k, .int .u64 b, .string s]
theorem eqV_t (k b : Int) (s : ByteArray) (w : World) : (binOp .eql 39 (VV k b s) (VV k b s)).run Try.prog w = .ok (.bool true) w := by simp [go_sem]
theorem eqV_f (k b k' b' : Int) (s s' : ByteArray) (w : World) (h : ¬ (k = k' ∧ b = b' ∧ s = s')) : (binOp .eql 39 (VV k b s) (VV k' b' s')).run Try.prog w = .ok (.bool false) w := by
  by_cases e1 : k = k'
  · by_cases e2 : b = b'
    · have e3 : ¬ s.toList = s'.toList := fun e => h ⟨e1, e2, ba_ext e⟩
      subst e1 e2
      simp [go_sem, e3]
    · subst e1
      simp [go_sem, e2]
  · simp [go_sem, e1]
theorem bcell2 {W w1 : World} (hb : Below W.heap.size W w1) : ∀ b o, b < W.heap.size → w1.cell? ⟨b, o, none⟩ = W.cell? ⟨b, o, none⟩ := fun b o h => hb.cell (p := ⟨b, o, none⟩) h
section
variable (h h' : EH) (x y x' y' : Option Addr) (n m n' m' c d c' d' : Nat) (N : Int) (w : World)
set_option maxRecDepth 20000 in
set_option maxHeartbeats 4000000 in
theorem sameX1 (p : Nat) (r : Bool) (v v' : Value) (hv : v = EV h (.slice x n c) (.slice y m d)) (hv' : v' = EV h' (.slice x' n' c') (.slice y' m' d')) (hp : w.cell? ⟨p, 0, none⟩ = some (.int .i64 N)) (hN : 0 ≤ N) (hM : N ≤ 1000000)
    (S : ∀ W, Below w.heap.size w W → Calls Try.prog 45 #[v, v', .int .i64 (N + 1)] W fun e w' => e = .returned (.bool r) ∧ Below W.heap.size W w') :
    Calls Try.prog 44 #[v, v', .pointer (some ⟨p, 0, none⟩)] w fun e w' => e = .returned (.bool r) ∧ Below w.heap.size w w' := by
  subst hv hv'
  have HS : Hid _ := S
  have zp := block_lt_of_cell hp
  have ew : wrap64 (N + 1) = N + 1 := by unfold wrap64; omega
  clear S
  go_enter Try.func44, Try.ntmps44
  go_wp2_with (first | (go_at_call 45; refine (HS.out _ (((Below.refl _ _).alloc (Nat.le_refl _) _).alloc (by simp) _)).mono ?_; rintro e w1 ⟨rfl, hb⟩; have HB : Hid (Below w.heap.size w w1) := (((Below.refl _ _).alloc (Nat.le_refl _) _).alloc (by simp) _).trans (hb.mono (by simp; omega)); clear hb))
  go_ret
  exact ⟨rfl, HB.out⟩
set_option maxRecDepth 20000 in
set_option maxHeartbeats 4000000 in
theorem sameX0 (r : Bool) (E : ∀ W p, Below w.heap.size w W → W.cell? ⟨p, 0, none⟩ = some (.int .i64 N) → Calls Try.prog 43 #[.slice x n c, .slice x' n' c', .func (.func 44) #[] #[.pointer (some ⟨p, 0, none⟩)]] W fun e w' => e = .returned (.bool r) ∧ Below W.heap.size W w') :
    Calls Try.prog 42 #[.slice x n c, .slice x' n' c', .int .i64 N] w fun e w' => e = .returned (.bool r) ∧ Below w.heap.size w w' := by
  have HE : Hid _ := E
  clear E
  go_enter Try.func42, Try.ntmps42
  go_wp2_with fail
  refine (HE.out _ _ ((Below.refl _ _).alloc (Nat.le_refl _) _) (by simp)).mono ?_
  rintro e w1 ⟨rfl, hb⟩
  have HB : Hid (Below w.heap.size w w1) := ((Below.refl _ _).alloc (Nat.le_refl _) _).trans (hb.mono (by simp))
  clear hb
  go_wp2
  go_ret
  exact ⟨rfl, HB.out⟩
set_option maxRecDepth 20000 in
set_option maxHeartbeats 4000000 in
theorem sameX (p q : Bool) (hN : N ≤ 131072)
    (P : ∀ W, Below w.heap.size w W → Calls Try.prog 23 #[.slice y m d, .slice y' m' d'] W fun e w' => e = .returned (.bool p) ∧ Below W.heap.size W w')
    (Q : ∀ W, Below w.heap.size w W → Calls Try.prog 42 #[.slice x n c, .slice x' n' c', .int .i64 N] W fun e w' => e = .returned (.bool q) ∧ Below W.heap.size W w') :
    Calls Try.prog 45 #[EV h (.slice x n c) (.slice y m d), EV h' (.slice x' n' c') (.slice y' m' d'), .int .i64 N] w fun e w' => e = .returned (.bool (hdS h h' && p && q)) ∧ Below w.heap.size w w' := by
  have HP : Hid _ := P
  have HQ : Hid _ := Q
  have GR : Hid (∀ X Y : Obj, Below w.heap.size w ((w.alloc X).alloc Y)) := fun X Y => ((Below.refl _ _).alloc (Nat.le_refl _) _).alloc (by simp) _
  clear P Q
  by_cases e1 : h.op = h'.op
  · have f1 : (h.op == h'.op) = true := by rw [beq_iff_eq]; exact e1
    by_cases e2 : h.nm = h'.nm
    · have f2 : (h.nm.toList == h'.nm.toList) = true := by rw [e2]; simp
      by_cases e3 : h.fd = h'.fd
      · have f3 : (h.fd.toList == h'.fd.toList) = true := by rw [e3]; simp
        by_cases e4 : h.vk = h'.vk ∧ h.vb = h'.vb ∧ h.vs = h'.vs
        · have f4 : ∀ w, (binOp .eql 39 (VV h.vk h.vb h.vs) (VV h'.vk h'.vb h'.vs)).run Try.prog w = .ok (.bool true) w := fun w => by rw [e4.1, e4.2.1, e4.2.2]; exact eqV_t _ _ _ w
          have r : hdS h h' = true := decide_eq_true ⟨e1, e2, e3, e4⟩
          rw [r]
          clear r e1 e2 e3 e4
          cases p
          · clear HQ
            go_enter Try.func45, Try.ntmps45
            go_wp2_with (first | (go_at_call 23; refine (HP.out _ (GR.out _ _)).mono ?_; rintro e w1 ⟨rfl, hb⟩; have B1 : Hid (Below w.heap.size w w1) := (GR.out _ _).trans (hb.mono (by simp; omega)); have k7 : w1.cell? ⟨w.heap.size, 7, none⟩ = some (.slice x n c) := (hb.cell (p := ⟨w.heap.size, 7, none⟩) (by simp; omega)).trans (by simp); have k8 : w1.cell? ⟨w.heap.size + 1, 7, none⟩ = some (.slice x' n' c') := (hb.cell (p := ⟨w.heap.size + 1, 7, none⟩) (by simp)).trans (by simp); clear hb))
            go_ret
            exact ⟨rfl, B1.out⟩
          · go_enter Try.func45, Try.ntmps45
            go_wp2_with (first | (go_at_call 23; refine (HP.out _ (GR.out _ _)).mono ?_; rintro e w1 ⟨rfl, hb⟩; have B1 : Hid (Below w.heap.size w w1) := (GR.out _ _).trans (hb.mono (by simp; omega)); have k7 : w1.cell? ⟨w.heap.size, 7, none⟩ = some (.slice x n c) := (hb.cell (p := ⟨w.heap.size, 7, none⟩) (by simp; omega)).trans (by simp); have k8 : w1.cell? ⟨w.heap.size + 1, 7, none⟩ = some (.slice x' n' c') := (hb.cell (p := ⟨w.heap.size + 1, 7, none⟩) (by simp)).trans (by simp); clear hb) | (go_at_call 42; refine (HQ.out _ B1.out).mono ?_; rintro e w2 ⟨rfl, hb⟩; have B2 : Hid (Below w.heap.size w w2) := B1.out.trans (hb.mono B1.out.size); clear hb))
            go_ret
            exact ⟨by simp, B2.out⟩
        · have f4 : ∀ w, (binOp .eql 39 (VV h.vk h.vb h.vs) (VV h'.vk h'.vb h'.vs)).run Try.prog w = .ok (.bool false) w := fun w => eqV_f _ _ _ _ _ _ w e4
          have r : hdS h h' = false := decide_eq_false fun e => e4 e.2.2.2
          clear HP HQ
          go_enter Try.func45, Try.ntmps45
          go_wp2
          go_ret
          exact ⟨by rw [r]; rfl, GR.out _ _⟩
      · have f3 : (h.fd.toList == h'.fd.toList) = false := Bool.eq_false_iff.2 fun e => e3 (ba_ext (by simpa using e))
        have r : hdS h h' = false := decide_eq_false fun e => e3 e.2.2.1
        clear HP HQ
        go_enter Try.func45, Try.ntmps45
        go_wp2
        go_ret
        exact ⟨by rw [r]; rfl, GR.out _ _⟩
    · have f2 : (h.nm.toList == h'.nm.toList) = false := Bool.eq_false_iff.2 fun e => e2 (ba_ext (by simpa using e))
      have r : hdS h h' = false := decide_eq_false fun e => e2 e.2.1
      clear HP HQ
      go_enter Try.func45, Try.ntmps45
      go_wp2
      go_ret
      exact ⟨by rw [r]; rfl, GR.out _ _⟩
  · have f1 : (h.op == h'.op) = false := by rw [beq_eq_false_iff_ne]; exact e1
    have r : hdS h h' = false := decide_eq_false fun e => e1 e.1
    clear HP HQ
    go_enter Try.func45, Try.ntmps45
    go_wp2
    go_ret
    exact ⟨by rw [r]; rfl, GR.out _ _⟩
end
end Go.Proofs.Ytcoeinfopfcekaa
