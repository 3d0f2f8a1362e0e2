/- The document's sameness of expressions; no statement of the seat is proved here. -/
import Derived.Test.YtcoeinfopfcekaaTrE
namespace Go.Proofs.Ytcoeinfopfcekaa
set_option linter.unusedVariables false
open Go.RowKit
section
variable (h h' : EH) (x y x' y' : Option Addr) (n m n' m' c d c' d' : Nat) (w : World)
set_option maxRecDepth 20000 in
set_option maxHeartbeats 4000000 in
theorem sameR (p q : Bool)
    (P : ∀ W, Below w.heap.size w W → Calls Try.prog 33 #[.slice y m d, .slice y' m' d'] W fun e w' => e = .returned (.bool p) ∧ Below W.heap.size W w')
    (Q : ∀ W, Below w.heap.size w W → Calls Try.prog 32 #[.slice x n c, .slice x' n' c'] W fun e w' => e = .returned (.bool q) ∧ Below W.heap.size W w') :
    Calls Try.prog 38 #[EV h (.slice x n c) (.slice y m d), EV h' (.slice x' n' c') (.slice y' m' d')] w fun e w' => e = .returned (.bool (hdS h h' && p && q)) ∧ Below w.heap.size w w' := by
  have HP : Hid _ := P
  have HQ : Hid _ := Q
  have GR : Hid (∀ X Y : Obj, Below w.heap.size w ((w.alloc X).alloc Y)) := fun X Y => ((Below.refl _ _).alloc (Nat.le_refl _) _).alloc (by simp) _
  clear P Q
  by_cases e1 : h.op = h'.op
  · have f1 : (h.op == h'.op) = true := by rw [beq_iff_eq]; exact e1
    by_cases e2 : h.nm = h'.nm
    · have f2 : (h.nm.toList == h'.nm.toList) = true := by rw [e2]; simp
      by_cases e3 : h.fd = h'.fd
      · have f3 : (h.fd.toList == h'.fd.toList) = true := by rw [e3]; simp
        by_cases e4 : h.vk = h'.vk ∧ h.vb = h'.vb ∧ h.vs = h'.vs
        · have f4 : ∀ w, (binOp .eql 39 (VV h.vk h.vb h.vs) (VV h'.vk h'.vb h'.vs)).run Try.prog w = .ok (.bool true) w := fun w => by rw [e4.1, e4.2.1, e4.2.2]; exact eqV_t _ _ _ w
          have r : hdS h h' = true := decide_eq_true ⟨e1, e2, e3, e4⟩
          rw [r]
          clear r e1 e2 e3 e4
          cases p
          · clear HQ
            go_enter Try.func38, Try.ntmps38
            go_wp2_with (first | (go_at_call 33; refine (HP.out _ (GR.out _ _)).mono ?_; rintro e w1 ⟨rfl, hb⟩; have B1 : Hid (Below w.heap.size w w1) := (GR.out _ _).trans (hb.mono (by simp; omega)); have k7 : w1.cell? ⟨w.heap.size, 7, none⟩ = some (.slice x n c) := (hb.cell (p := ⟨w.heap.size, 7, none⟩) (by simp; omega)).trans (by simp); have k8 : w1.cell? ⟨w.heap.size + 1, 7, none⟩ = some (.slice x' n' c') := (hb.cell (p := ⟨w.heap.size + 1, 7, none⟩) (by simp)).trans (by simp); clear hb))
            go_ret
            exact ⟨rfl, B1.out⟩
          · go_enter Try.func38, Try.ntmps38
            go_wp2_with (first | (go_at_call 33; refine (HP.out _ (GR.out _ _)).mono ?_; rintro e w1 ⟨rfl, hb⟩; have B1 : Hid (Below w.heap.size w w1) := (GR.out _ _).trans (hb.mono (by simp; omega)); have k7 : w1.cell? ⟨w.heap.size, 7, none⟩ = some (.slice x n c) := (hb.cell (p := ⟨w.heap.size, 7, none⟩) (by simp; omega)).trans (by simp); have k8 : w1.cell? ⟨w.heap.size + 1, 7, none⟩ = some (.slice x' n' c') := (hb.cell (p := ⟨w.heap.size + 1, 7, none⟩) (by simp)).trans (by simp); clear hb) | (go_at_call 32; refine (HQ.out _ B1.out).mono ?_; rintro e w2 ⟨rfl, hb⟩; have B2 : Hid (Below w.heap.size w w2) := B1.out.trans (hb.mono B1.out.size); clear hb))
            go_ret
            exact ⟨by simp, B2.out⟩
        · have f4 : ∀ w, (binOp .eql 39 (VV h.vk h.vb h.vs) (VV h'.vk h'.vb h'.vs)).run Try.prog w = .ok (.bool false) w := fun w => eqV_f _ _ _ _ _ _ w e4
          have r : hdS h h' = false := decide_eq_false fun e => e4 e.2.2.2
          clear HP HQ
          go_enter Try.func38, Try.ntmps38
          go_wp2
          go_ret
          exact ⟨by rw [r]; rfl, GR.out _ _⟩
      · have f3 : (h.fd.toList == h'.fd.toList) = false := Bool.eq_false_iff.2 fun e => e3 (ba_ext (by simpa using e))
        have r : hdS h h' = false := decide_eq_false fun e => e3 e.2.2.1
        clear HP HQ
        go_enter Try.func38, Try.ntmps38
        go_wp2
        go_ret
        exact ⟨by rw [r]; rfl, GR.out _ _⟩
    · have f2 : (h.nm.toList == h'.nm.toList) = false := Bool.eq_false_iff.2 fun e => e2 (ba_ext (by simpa using e))
      have r : hdS h h' = false := decide_eq_false fun e => e2 e.2.1
      clear HP HQ
      go_enter Try.func38, Try.ntmps38
      go_wp2
      go_ret
      exact ⟨by rw [r]; rfl, GR.out _ _⟩
  · have f1 : (h.op == h'.op) = false := by rw [beq_eq_false_iff_ne]; exact e1
    have r : hdS h h' = false := decide_eq_false fun e => e1 e.1
    clear HP HQ
    go_enter Try.func38, Try.ntmps38
    go_wp2
    go_ret
    exact ⟨by rw [r]; rfl, GR.out _ _⟩
end
set_option maxRecDepth 20000 in
set_option maxHeartbeats 4000000 in
theorem sameRL (d : Nat) (f : Ex → Ex → Bool) (x y : Option Addr) (l l' : List Ex) (c c2 : Nat) (w : World) (ha : KdAt (d + 1) w x l) (hb : KdAt (d + 1) w y l')
    (hF : ∀ W v v' e e', Below w.heap.size w W → e ∈ l → EvOk d W v e → EvOk d W v' e' → Calls Try.prog 38 #[v, v'] W fun r w' => r = .returned (.bool (f e e')) ∧ Below W.heap.size W w') :
    Calls Try.prog 32 #[.slice x l.length c, .slice y l'.length c2] w fun e w' => e = .returned (.bool (smL f l l')) ∧ Below w.heap.size w w' := by
  have HA : Hid (KdAt (d + 1) w x l) := ha
  have HB : Hid (KdAt (d + 1) w y l') := hb
  have HF : Hid _ := hF
  clear ha hb hF
  by_cases el : l.length = l'.length
  · generalize hn : l'.length = n at *
    have HN : Hid _ := hn
    clear hn
    subst el
    go_enter Try.func32, Try.ntmps32
    go_wp2_with fail
    go_loopw [13] (fun i wr => ∃ k : Nat, k ≤ l.length ∧ i = .int .i64 k ∧ Below w.heap.size w wr ∧ ∀ (j : Nat) e e', j < k → l[j]? = some e → l'[j]? = some e' → f e e' = true) (fun i _ => l.length - (intOf i).toNat)
    case atStart => exact ⟨0, Nat.zero_le _, rfl, Below.refl _ _, fun j _ _ hj => absurd hj (Nat.not_lt_zero _)⟩
    case round =>
      obtain ⟨k, hk, rfl, hbw, hall⟩ := hrel
      have HW : Hid (Below w.heap.size w wr) := hbw
      have AL : Hid _ := hall
      clear hall
      by_cases hlt : k < l.length
      · obtain ⟨a, rfl⟩ : ∃ a, x = some a := by
          cases x with
          | none => have := HA.out.2.1 rfl; rw [this] at hlt; exact absurd hlt (Nat.not_lt_zero _)
          | some a => exact ⟨a, rfl⟩
        obtain ⟨b, rfl⟩ : ∃ b, y = some b := by
          cases y with
          | none => have := HB.out.2.1 rfl; have q := HN.out; rw [this] at q; simp at q; omega
          | some b => exact ⟨b, rfl⟩
        obtain ⟨h1, ns1, l1, z1, d1, z2, d2, e1, ec1, ev1⟩ := (HA.out.below hbw).el k hlt
        obtain ⟨h2, ns2, l2, z3, d3, z4, d4, e2, ec2, ev2⟩ := (HB.out.below hbw).el k (by have := HN.out; omega)
        have E1 : Hid _ := e1
        have E2 : Hid _ := e2
        have V1 : Hid (EvOk d wr (EV h1 (.slice z1 l1.length d1) (.slice z2 ns1.length d2)) (Ex.mk h1 ns1 l1)) := ev1
        have V2 : Hid (EvOk d wr (EV h2 (.slice z3 l2.length d3) (.slice z4 ns2.length d4)) (Ex.mk h2 ns2 l2)) := ev2
        have LT : Hid _ := hlt
        have kl : (k : Int) < l.length := by omega
        obtain ⟨x0, x1, x2, x3, x4, x5, x6, x7, x8, x9, x10, x11, x12, x13⟩ := ec1
        obtain ⟨y0, y1, y2, y3, y4, y5, y6, y7, y8, y9, y10, y11, y12, y13⟩ := ec2
        clear hbw hlt e1 e2 ev1 ev2
        have za := block_lt_of_cell x0
        have zb := block_lt_of_cell y0
        have CALL : Hid (∀ z : Sub wr, Calls Try.prog 38 #[EV h1 (.slice z1 l1.length d1) (.slice z2 ns1.length d2), EV h2 (.slice z3 l2.length d3) (.slice z4 ns2.length d4)] z.w fun r w' => r = .returned (.bool (f (Ex.mk h1 ns1 l1) (Ex.mk h2 ns2 l2))) ∧ Below z.w.heap.size z.w w') := fun z => HF.out _ _ _ _ _ (HW.out.trans (z.h.mono HW.out.size)) (List.mem_of_getElem? E1.out) (EvOk.below V1.out z.h) (EvOk.below V2.out z.h)
        go_wp2_with fail
        have p0 : ∀ z : Sub wr, z.w.cell? (a.add (k * 14)) = some _ := fun z => (z.h.cell (p := a.add (k * 14)) za).trans x0
        have p1 : ∀ z : Sub wr, z.w.cell? ⟨(a.add (k * 14)).block, (a.add (k * 14)).off + 1, none⟩ = some _ := fun z => (z.h.cell (p := ⟨(a.add (k * 14)).block, (a.add (k * 14)).off + 1, none⟩) za).trans x1
        have p2 : ∀ z : Sub wr, z.w.cell? ⟨(a.add (k * 14)).block, (a.add (k * 14)).off + 2, none⟩ = some _ := fun z => (z.h.cell (p := ⟨(a.add (k * 14)).block, (a.add (k * 14)).off + 2, none⟩) za).trans x2
        have p3 : ∀ z : Sub wr, z.w.cell? ⟨(a.add (k * 14)).block, (a.add (k * 14)).off + 3, none⟩ = some _ := fun z => (z.h.cell (p := ⟨(a.add (k * 14)).block, (a.add (k * 14)).off + 3, none⟩) za).trans x3
        have p4 : ∀ z : Sub wr, z.w.cell? ⟨(a.add (k * 14)).block, (a.add (k * 14)).off + 4, none⟩ = some _ := fun z => (z.h.cell (p := ⟨(a.add (k * 14)).block, (a.add (k * 14)).off + 4, none⟩) za).trans x4
        have p5 : ∀ z : Sub wr, z.w.cell? ⟨(a.add (k * 14)).block, (a.add (k * 14)).off + 5, none⟩ = some _ := fun z => (z.h.cell (p := ⟨(a.add (k * 14)).block, (a.add (k * 14)).off + 5, none⟩) za).trans x5
        have p6 : ∀ z : Sub wr, z.w.cell? ⟨(a.add (k * 14)).block, (a.add (k * 14)).off + 6, none⟩ = some _ := fun z => (z.h.cell (p := ⟨(a.add (k * 14)).block, (a.add (k * 14)).off + 6, none⟩) za).trans x6
        have p7 : ∀ z : Sub wr, z.w.cell? ⟨(a.add (k * 14)).block, (a.add (k * 14)).off + 7, none⟩ = some _ := fun z => (z.h.cell (p := ⟨(a.add (k * 14)).block, (a.add (k * 14)).off + 7, none⟩) za).trans x7
        have p8 : ∀ z : Sub wr, z.w.cell? ⟨(a.add (k * 14)).block, (a.add (k * 14)).off + 8, none⟩ = some _ := fun z => (z.h.cell (p := ⟨(a.add (k * 14)).block, (a.add (k * 14)).off + 8, none⟩) za).trans x8
        have p9 : ∀ z : Sub wr, z.w.cell? ⟨(a.add (k * 14)).block, (a.add (k * 14)).off + 9, none⟩ = some _ := fun z => (z.h.cell (p := ⟨(a.add (k * 14)).block, (a.add (k * 14)).off + 9, none⟩) za).trans x9
        have p10 : ∀ z : Sub wr, z.w.cell? ⟨(a.add (k * 14)).block, (a.add (k * 14)).off + 10, none⟩ = some _ := fun z => (z.h.cell (p := ⟨(a.add (k * 14)).block, (a.add (k * 14)).off + 10, none⟩) za).trans x10
        have p11 : ∀ z : Sub wr, z.w.cell? ⟨(a.add (k * 14)).block, (a.add (k * 14)).off + 11, none⟩ = some _ := fun z => (z.h.cell (p := ⟨(a.add (k * 14)).block, (a.add (k * 14)).off + 11, none⟩) za).trans x11
        have p12 : ∀ z : Sub wr, z.w.cell? ⟨(a.add (k * 14)).block, (a.add (k * 14)).off + 12, none⟩ = some _ := fun z => (z.h.cell (p := ⟨(a.add (k * 14)).block, (a.add (k * 14)).off + 12, none⟩) za).trans x12
        have p13 : ∀ z : Sub wr, z.w.cell? ⟨(a.add (k * 14)).block, (a.add (k * 14)).off + 13, none⟩ = some _ := fun z => (z.h.cell (p := ⟨(a.add (k * 14)).block, (a.add (k * 14)).off + 13, none⟩) za).trans x13
        have q0 : ∀ z : Sub wr, z.w.cell? (b.add (k * 14)) = some _ := fun z => (z.h.cell (p := b.add (k * 14)) zb).trans y0
        have q1 : ∀ z : Sub wr, z.w.cell? ⟨(b.add (k * 14)).block, (b.add (k * 14)).off + 1, none⟩ = some _ := fun z => (z.h.cell (p := ⟨(b.add (k * 14)).block, (b.add (k * 14)).off + 1, none⟩) zb).trans y1
        have q2 : ∀ z : Sub wr, z.w.cell? ⟨(b.add (k * 14)).block, (b.add (k * 14)).off + 2, none⟩ = some _ := fun z => (z.h.cell (p := ⟨(b.add (k * 14)).block, (b.add (k * 14)).off + 2, none⟩) zb).trans y2
        have q3 : ∀ z : Sub wr, z.w.cell? ⟨(b.add (k * 14)).block, (b.add (k * 14)).off + 3, none⟩ = some _ := fun z => (z.h.cell (p := ⟨(b.add (k * 14)).block, (b.add (k * 14)).off + 3, none⟩) zb).trans y3
        have q4 : ∀ z : Sub wr, z.w.cell? ⟨(b.add (k * 14)).block, (b.add (k * 14)).off + 4, none⟩ = some _ := fun z => (z.h.cell (p := ⟨(b.add (k * 14)).block, (b.add (k * 14)).off + 4, none⟩) zb).trans y4
        have q5 : ∀ z : Sub wr, z.w.cell? ⟨(b.add (k * 14)).block, (b.add (k * 14)).off + 5, none⟩ = some _ := fun z => (z.h.cell (p := ⟨(b.add (k * 14)).block, (b.add (k * 14)).off + 5, none⟩) zb).trans y5
        have q6 : ∀ z : Sub wr, z.w.cell? ⟨(b.add (k * 14)).block, (b.add (k * 14)).off + 6, none⟩ = some _ := fun z => (z.h.cell (p := ⟨(b.add (k * 14)).block, (b.add (k * 14)).off + 6, none⟩) zb).trans y6
        have q7 : ∀ z : Sub wr, z.w.cell? ⟨(b.add (k * 14)).block, (b.add (k * 14)).off + 7, none⟩ = some _ := fun z => (z.h.cell (p := ⟨(b.add (k * 14)).block, (b.add (k * 14)).off + 7, none⟩) zb).trans y7
        have q8 : ∀ z : Sub wr, z.w.cell? ⟨(b.add (k * 14)).block, (b.add (k * 14)).off + 8, none⟩ = some _ := fun z => (z.h.cell (p := ⟨(b.add (k * 14)).block, (b.add (k * 14)).off + 8, none⟩) zb).trans y8
        have q9 : ∀ z : Sub wr, z.w.cell? ⟨(b.add (k * 14)).block, (b.add (k * 14)).off + 9, none⟩ = some _ := fun z => (z.h.cell (p := ⟨(b.add (k * 14)).block, (b.add (k * 14)).off + 9, none⟩) zb).trans y9
        have q10 : ∀ z : Sub wr, z.w.cell? ⟨(b.add (k * 14)).block, (b.add (k * 14)).off + 10, none⟩ = some _ := fun z => (z.h.cell (p := ⟨(b.add (k * 14)).block, (b.add (k * 14)).off + 10, none⟩) zb).trans y10
        have q11 : ∀ z : Sub wr, z.w.cell? ⟨(b.add (k * 14)).block, (b.add (k * 14)).off + 11, none⟩ = some _ := fun z => (z.h.cell (p := ⟨(b.add (k * 14)).block, (b.add (k * 14)).off + 11, none⟩) zb).trans y11
        have q12 : ∀ z : Sub wr, z.w.cell? ⟨(b.add (k * 14)).block, (b.add (k * 14)).off + 12, none⟩ = some _ := fun z => (z.h.cell (p := ⟨(b.add (k * 14)).block, (b.add (k * 14)).off + 12, none⟩) zb).trans y12
        have q13 : ∀ z : Sub wr, z.w.cell? ⟨(b.add (k * 14)).block, (b.add (k * 14)).off + 13, none⟩ = some _ := fun z => (z.h.cell (p := ⟨(b.add (k * 14)).block, (b.add (k * 14)).off + 13, none⟩) zb).trans y13
        clear x0 x1 x2 x3 x4 x5 x6 x7 x8 x9 x10 x11 x12 x13 y0 y1 y2 y3 y4 y5 y6 y7 y8 y9 y10 y11 y12 y13
        refine wp_region_sub2 (by kernel_rfl) (by kernel_rfl) ?_
        intro cx
        clear cx
        repeat (first | go_big_quiet_skip | (go_big_quiet_want; go_big_quiet_op; first | go_big_quiet_on | (refine ⟨_, fun _ => rfl, ?_⟩; go_big_quiet_on) | go_big_quiet_call (first | (go_at_call 38; exact calls_sub (CALL.out _)))))
        refine wpQuiet_nil ?_
        rintro _ ⟨z, rfl⟩
        have B5 : Hid (Below w.heap.size w z.w) := HW.out.trans (z.h.mono HW.out.size)
        generalize z.w = w5 at *
        clear p0 p1 p2 p3 p4 p5 p6 p7 p8 p9 p10 p11 p12 p13 q0 q1 q2 q3 q4 q5 q6 q7 q8 q9 q10 q11 q12 q13 za zb
        cases q : f (Ex.mk h1 ns1 l1) (Ex.mk h2 ns2 l2)
        · have ed := smL_bad f l l' k _ _ E1.out E2.out q
          clear q
          go_wp2
          go_ret
          exact ⟨by first | rfl | (rw [ed]; rfl), B5.out⟩
        · have Q : Hid _ := q
          clear q
          have ew : wrap64 ((k : Int) + 1) = (k : Int) + 1 := by have := HA.out.1; have := LT.out; unfold wrap64; omega
          go_wp2
          rw [ew]
          exact ⟨⟨k + 1, Nat.succ_le_of_lt LT.out, rfl, B5.out, fun j e e' hj a b => by
            rcases Nat.lt_succ_iff_lt_or_eq.1 hj with h | rfl
            · exact AL.out j e e' h a b
            · rw [E1.out] at a; rw [E2.out] at b; cases a; cases b; exact Q.out⟩, msr LT.out⟩
      · have kl : ¬ (k : Int) < l.length := by omega
        have ed := smL_all f l l' HN.out.symm fun i e e' a b => AL.out i e e' (by
          apply Classical.byContradiction
          intro q
          rw [List.getElem?_eq_none (by omega)] at a
          cases a) a b
        clear hbw hlt
        go_wp2
        go_ret
        exact ⟨by first | rfl | (rw [ed]; rfl), HW.out⟩
  · have el' : ((l.length : Int) == (l'.length : Int)) = false := by rw [beq_eq_false_iff_ne]; omega
    have el2 : ((l.length : Int) != (l'.length : Int)) = true := by simp [bne, el']
    have ed := smL_len f l l' el
    clear el
    go_enter Try.func32, Try.ntmps32
    go_wp2
    go_ret
    exact ⟨by first | rfl | (rw [ed]; rfl), Below.refl _ _⟩
/-- What the document's sameExprs answers. -/
def RmL (d : Nat) : Prop := ∀ (w : World) (x x' : Option Addr) (l l' : List Ex) (c c' : Nat), KdAt d w x l → KdAt d w x' l' →
  Calls Try.prog 32 #[.slice x l.length c, .slice x' l'.length c'] w fun e w' => e = .returned (.bool (smL (smE d) l l')) ∧ Below w.heap.size w w'
/-- What the document's SameExpr answers. -/
def RmX (d : Nat) : Prop := ∀ (w : World) (v v' : Value) (e e' : Ex), EvOk d w v e → EvOk d w v' e' →
  Calls Try.prog 38 #[v, v'] w fun r w' => r = .returned (.bool (smE (d + 1) e e')) ∧ Below w.heap.size w w'
theorem rmX_of (d : Nat) (L : RmL d) : RmX d := by
  intro w v v' e e' hv hv'
  cases e with
  | mk h ns l =>
    cases e' with
    | mk h' ns' l' =>
      obtain ⟨x, c, y, c', rfl, hn, f1, hk⟩ := hv
      obtain ⟨x', c2, y', c2', rfl, hn', f1', hk'⟩ := hv'
      exact sameR h h' x y x' y' l.length ns.length l'.length ns'.length c c' c2 c2' w _ _ (fun W hb => textsR y y' ns ns' c' c2' W (hn.below hb) (hn'.below hb) (Nat.lt_trans f1 (by decide))) (fun W hb => L W x x' l l' c c2 (hk.below hb) (hk'.below hb))
theorem rmL_of : ∀ d, RmL d
  | 0 => by
    intro w x x' l l' c c' hk hk'
    obtain rfl := hk.none0
    obtain rfl := hk'.none0
    exact sameRL 0 (smE 0) x x' [] [] c c' w ⟨hk.1, fun _ => rfl, fun b _ i q hq => by simp at hq⟩ ⟨hk'.1, fun _ => rfl, fun b _ i q hq => by simp at hq⟩ fun W v v' e e' _ hm => by simp at hm
  | d + 1 => by
    intro w x x' l l' c c' hk hk'
    have X := rmX_of d (rmL_of d)
    exact sameRL d (smE (d + 1)) x x' l l' c c' w hk hk' fun W v v' e e' _ _ hv hv' => X W v v' e e' hv hv'
end Go.Proofs.Ytcoeinfopfcekaa
