/- slices.EqualFunc over statements; no statement of the seat is proved here. -/
import Derived.Test.YtcoeinfopfcekaaTrP
namespace Go.Proofs.Ytcoeinfopfcekaa
set_option linter.unusedVariables false
open Go.RowKit
set_option maxRecDepth 20000 in
set_option maxHeartbeats 4000000 in
theorem EqualFS (F p d : Nat) (f : St → St → Bool) (x y : Option Addr) (l l' : List St) (c c2 : Nat) (w : World) (ha : StL (fun b => b < w.heap.size) (d + 1) w x l) (hb : StL (fun b => b < w.heap.size) (d + 1) w y l')
    (hE : ∀ args w, (callFunc F args).run Try.prog w = .ok (.enter F args) w)
    (hF : ∀ W v v' e e', Below w.heap.size w W → e ∈ l → SvF (fun b => b < w.heap.size) d W v e → SvF (fun b => b < w.heap.size) d W v' e' → Calls Try.prog F #[v, v', .pointer (some ⟨p, 0, none⟩)] W fun r w' => r = .returned (.bool (f e e')) ∧ Below W.heap.size W w') :
    Calls Try.prog 39 #[.slice x l.length c, .slice y l'.length c2, .func (.func F) #[] #[.pointer (some ⟨p, 0, none⟩)]] w fun e w' => e = .returned (.bool (smL f l l')) ∧ Below w.heap.size w w' := by
  have HA : Hid (StL (fun b => b < w.heap.size) (d + 1) w x l) := ha
  have HB : Hid (StL (fun b => b < w.heap.size) (d + 1) w y l') := hb
  have HF : Hid _ := hF
  clear ha hb hF
  by_cases el : l.length = l'.length
  · generalize hn : l'.length = n at *
    have HN : Hid _ := hn
    clear hn
    subst el
    go_enter Try.func39, Try.ntmps39
    go_wp2_with fail
    go_loopw [17] (fun i wr => ∃ k : Nat, k ≤ l.length ∧ i = .int .i64 k ∧ Below w.heap.size w wr ∧ ∀ (j : Nat) e e', j < k → l[j]? = some e → l'[j]? = some e' → f e e' = true) (fun i _ => l.length - (intOf i).toNat)
    case atStart => exact ⟨0, Nat.zero_le _, rfl, Below.refl _ _, fun j _ _ hj => absurd hj (Nat.not_lt_zero _)⟩
    case round =>
      obtain ⟨k, hk, rfl, hbw, hall⟩ := hrel
      have HW : Hid (Below w.heap.size w wr) := hbw
      have AL : Hid _ := hall
      clear hall
      by_cases hlt : k < l.length
      · obtain ⟨a, rfl⟩ : ∃ a, x = some a := by
          cases x with
          | none => have := HA.out.2.1 rfl; rw [this] at hlt; exact absurd hlt (Nat.not_lt_zero _)
          | some a => exact ⟨a, rfl⟩
        obtain ⟨b, rfl⟩ : ∃ b, y = some b := by
          cases y with
          | none => have := HB.out.2.1 rfl; have q := HN.out; rw [this] at q; simp at q; omega
          | some b => exact ⟨b, rfl⟩
        obtain ⟨h1, es1, ns1, os1, on1, rs1, b1, e1, p10, q10, p11, q11, p12, q12, p13, q13, p14, q14, p15, q15, p16, q16, ee1, hp1, ec1, ev1⟩ := (HA.out.fr (old_fr hbw)).el k hlt
        obtain ⟨h2, es2, ns2, os2, on2, rs2, b2, e2, p20, q20, p21, q21, p22, q22, p23, q23, p24, q24, p25, q25, p26, q26, ee2, hp2, ec2, ev2⟩ := (HB.out.fr (old_fr hbw)).el k (by have := HN.out; omega)
        have E1 : Hid _ := ee1
        have E2 : Hid _ := ee2
        have V1 : Hid (SvF (fun b => b < w.heap.size) d wr (SV h1 (.slice p10 es1.length q10) (.slice p11 ns1.length q11) (.slice p12 os1.length q12) (.slice p13 on1.length q13) (.slice p14 rs1.length q14) (.slice p15 b1.length q15) (.slice p16 e1.length q16)) (St.mk h1 es1 ns1 os1 on1 rs1 b1 e1)) := ev1
        have V2 : Hid (SvF (fun b => b < w.heap.size) d wr (SV h2 (.slice p20 es2.length q20) (.slice p21 ns2.length q21) (.slice p22 os2.length q22) (.slice p23 on2.length q23) (.slice p24 rs2.length q24) (.slice p25 b2.length q25) (.slice p26 e2.length q26)) (St.mk h2 es2 ns2 os2 on2 rs2 b2 e2)) := ev2
        have LT : Hid _ := hlt
        have kl : (k : Int) < l.length := by omega
        obtain ⟨x0, x1, x2, x3, x4, x5, x6, x7, x8, x9, x10, x11, x12, x13⟩ := ec1
        obtain ⟨y0, y1, y2, y3, y4, y5, y6, y7, y8, y9, y10, y11, y12, y13⟩ := ec2
        clear hbw hlt ee1 ee2 ev1 ev2 hp1 hp2
        have za := block_lt_of_cell x0
        have zb := block_lt_of_cell y0
        have GR : Hid (∀ X Y : Obj, Below wr.heap.size wr ((wr.alloc X).alloc Y)) := fun X Y => ((Below.refl _ _).alloc (Nat.le_refl _) _).alloc (by simp) _
        have GF : Hid (∀ X Y : Obj, FrS (fun b => b < w.heap.size) wr ((wr.alloc X).alloc Y)) := fun X Y q hq => (GR.out X Y).cell (Nat.lt_of_lt_of_le hq HW.out.size)
        go_wp2_with fail
        refine (HF.out _ _ _ _ _ (HW.out.trans ((GR.out _ _).mono HW.out.size)) (List.mem_of_getElem? E1.out) (SvF.fr V1.out (GF.out _ _)) (SvF.fr V2.out (GF.out _ _))).mono ?_
        rintro r w5 ⟨rfl, hb5⟩
        have B5 : Hid (Below w.heap.size w w5) := HW.out.trans (((GR.out _ _).trans (hb5.mono (by simp; omega))).mono HW.out.size)
        clear hb5 x0 x1 x2 x3 x4 x5 x6 x7 x8 x9 x10 x11 x12 x13 y0 y1 y2 y3 y4 y5 y6 y7 y8 y9 y10 y11 y12 y13 za zb GR
        cases q : f (St.mk h1 es1 ns1 os1 on1 rs1 b1 e1) (St.mk h2 es2 ns2 os2 on2 rs2 b2 e2)
        · have ed := smL_bad f l l' k _ _ E1.out E2.out q
          clear q
          go_wp2
          go_ret
          exact ⟨by first | rfl | (rw [ed]; rfl), B5.out⟩
        · have Q : Hid _ := q
          clear q
          have ew : wrap64 ((k : Int) + 1) = (k : Int) + 1 := by have := HA.out.1; have := LT.out; unfold wrap64; omega
          go_wp2
          rw [ew]
          exact ⟨⟨k + 1, Nat.succ_le_of_lt LT.out, rfl, B5.out, fun j e e' hj a b => by
            rcases Nat.lt_succ_iff_lt_or_eq.1 hj with h | rfl
            · exact AL.out j e e' h a b
            · rw [E1.out] at a; rw [E2.out] at b; cases a; cases b; exact Q.out⟩, msr LT.out⟩
      · have kl : ¬ (k : Int) < l.length := by omega
        have ed := smL_all f l l' HN.out.symm fun i e e' a b => AL.out i e e' (by
          apply Classical.byContradiction
          intro q
          rw [List.getElem?_eq_none (by omega)] at a
          cases a) a b
        clear hbw hlt
        go_wp2
        go_ret
        exact ⟨by first | rfl | (rw [ed]; rfl), HW.out⟩
  · have el' : ((l.length : Int) == (l'.length : Int)) = false := by rw [beq_eq_false_iff_ne]; omega
    have el2 : ((l.length : Int) != (l'.length : Int)) = true := by simp [bne, el']
    have ed := smL_len f l l' el
    clear el
    go_enter Try.func39, Try.ntmps39
    go_wp2
    go_ret
    exact ⟨by first | rfl | (rw [ed]; rfl), Below.refl _ _⟩
end Go.Proofs.Ytcoeinfopfcekaa
