/- sfc.Same; no statement of the seat is proved here. -/
import Derived.Test.YtcoeinfopfcekaaSfF
namespace Go.Proofs.Ytcoeinfopfcekaa
set_option linter.unusedVariables false
open Go.RowKit
theorem enter_sp (args : Array Value) (w : World) : (callFunc 13 args).run Try.prog w = .ok (.enter 13 args) w := by kernel_rfl
theorem enter_ac (args : Array Value) (w : World) : (callFunc 17 args).run Try.prog w = .ok (.enter 17 args) w := by kernel_rfl
set_option maxRecDepth 20000 in
set_option maxHeartbeats 4000000 in
theorem SameC_of (d : Nat) (hd : d + 2 ≤ 131072) (m m' : ChR) (x1 x2 x3 y1 y2 y3 : Option Addr) (c1 c2 c3 e1 e2 e3 : Nat) (w : World) (ha : ChQ (fun b => b < w.heap.size) d w m x1 x2 x3) (hb : ChQ (fun b => b < w.heap.size) d w m' y1 y2 y3) :
    Calls Try.prog 5 #[.agg #[.slice x1 m.ss.length c1, .slice x2 m.ts.length c2, .slice x3 m.ac.length c3], .agg #[.slice y1 m'.ss.length e1, .slice y2 m'.ts.length e2, .slice y3 m'.ac.length e3]] w fun e w' => e = .returned (.bool (smCh d m m')) ∧ Below w.heap.size w w' := by
  have up : ∀ {W W' : World}, Below W.heap.size W W' → ∀ b, b < W.heap.size → b < W'.heap.size := fun h b q => Nat.lt_of_lt_of_le q h.size
  have Q1 : Hid (∀ W, Below w.heap.size w W → Calls Try.prog 12 #[.slice x1 m.ss.length c1, .slice y1 m'.ss.length e1, .func (.func 13) #[] #[]] W fun e w' => e = .returned (.bool (smL smSp m.ss m'.ss)) ∧ Below W.heap.size W w') := fun W h =>
    EqualFSp 13 smSp x1 y1 m.ss m'.ss c1 e1 W (ha.on h).1 (hb.on h).1 enter_sp fun W' vs vs' s s' hb' _ ⟨p, q, e, hq⟩ ⟨p', q', e', hq'⟩ => by
      subst e e'
      exact sameSp_of s s' p p' q q' W' (hq.sub (up hb')) (hq'.sub (up hb'))
  have Q2 : Hid (∀ W, Below w.heap.size w W → Calls Try.prog 14 #[.slice x2 m.ts.length c2, .slice y2 m'.ts.length e2, .func (.func 15) #[] #[]] W fun e w' => e = .returned (.bool (smL (smTn d) m.ts m'.ts)) ∧ Below W.heap.size W w') := fun W h =>
    EqualFTn 15 d (smTn d) x2 y2 m.ts m'.ts c2 e2 W (ha.on h).2.1 (hb.on h).2.1 enter_tn fun W' vs vs' s s' hb' _ ⟨p1, q1, p2, q2, p3, q3, p4, q4, e, hq⟩ ⟨r1, t1, r2, t2, r3, t3, r4, t4, e', hq'⟩ => by
      subst e e'
      exact sameTn_of d hd s s' p1 p2 p3 p4 r1 r2 r3 r4 q1 q2 q3 q4 t1 t2 t3 t4 W' (hq.sub (up hb')) (hq'.sub (up hb'))
  have Q3 : Hid (∀ W, Below w.heap.size w W → Calls Try.prog 16 #[.slice x3 m.ac.length c3, .slice y3 m'.ac.length e3, .func (.func 17) #[] #[]] W fun e w' => e = .returned (.bool (smL (smAc d) m.ac m'.ac)) ∧ Below W.heap.size W w') := fun W h =>
    EqualFAc 17 d (smAc d) x3 y3 m.ac m'.ac c3 e3 W (ha.on h).2.2 (hb.on h).2.2 enter_ac fun W' vs vs' s s' hb' _ ⟨p, q, e, hq⟩ ⟨p', q', e', hq'⟩ => by
      subst e e'
      exact sameAc_of d (by omega) s s' p p' q q' W' (hq.sub (up hb')) (hq'.sub (up hb'))
  have GR : Hid (∀ X Y : Obj, Below w.heap.size w ((w.alloc X).alloc Y)) := two_b w
  unfold smCh
  clear ha hb up
  cases r1 : smL smSp m.ss m'.ss
  · rw [r1] at Q1
    go_enter Try.func5, Try.ntmps5
    go_wp2_with (go_at_call 12; refine (Q1.out _ (GR.out _ _)).mono ?_; rintro e w1 ⟨rfl, hb⟩; have B1 : Hid (Below w.heap.size w w1) := (GR.out _ _).trans (hb.mono (by simp; omega)); clear hb)
    go_ret
    exact ⟨by first | rfl | simp, B1.out⟩
  · rw [r1] at Q1
    have X1 : Hid _ := Q1
    clear Q1 r1
    obtain ⟨W, eW⟩ : ∃ W, W = (w.alloc (.cells #[.slice x1 m.ss.length c1, .slice x2 m.ts.length c2, .slice x3 m.ac.length c3] 26 (0, 0))).alloc (.cells #[.slice y1 m'.ss.length e1, .slice y2 m'.ts.length e2, .slice y3 m'.ac.length e3] 26 (0, 0)) := ⟨_, rfl⟩
    have WB : Hid (Below w.heap.size w W) := by rw [eW]; exact GR.out _ _
    have CA : Hid (∀ V, Below W.heap.size W V → V.cell? ⟨w.heap.size, 0, none⟩ = some (.slice x1 m.ss.length c1) ∧ V.cell? ⟨w.heap.size, 1, none⟩ = some (.slice x2 m.ts.length c2) ∧ V.cell? ⟨w.heap.size, 2, none⟩ = some (.slice x3 m.ac.length c3) ∧ V.cell? ⟨w.heap.size + 1, 0, none⟩ = some (.slice y1 m'.ss.length e1) ∧ V.cell? ⟨w.heap.size + 1, 1, none⟩ = some (.slice y2 m'.ts.length e2) ∧ V.cell? ⟨w.heap.size + 1, 2, none⟩ = some (.slice y3 m'.ac.length e3)) := fun V hV => by
      have z : w.heap.size < W.heap.size ∧ w.heap.size + 1 < W.heap.size := by rw [eW]; simp <;> omega
      refine ⟨(hV.cell (p := ⟨w.heap.size, 0, none⟩) z.1).trans ?_, (hV.cell (p := ⟨w.heap.size, 1, none⟩) z.1).trans ?_, (hV.cell (p := ⟨w.heap.size, 2, none⟩) z.1).trans ?_, (hV.cell (p := ⟨w.heap.size + 1, 0, none⟩) z.2).trans ?_, (hV.cell (p := ⟨w.heap.size + 1, 1, none⟩) z.2).trans ?_, (hV.cell (p := ⟨w.heap.size + 1, 2, none⟩) z.2).trans ?_⟩ <;> (rw [eW]; simp)
    obtain ⟨a0, a1, a2, a3, a4, a5⟩ := CA.out W (Below.refl _ _)
    cases r2 : smL (smTn d) m.ts m'.ts
    · rw [r2] at Q2
      go_enter Try.func5, Try.ntmps5
      go_upto_region 1 with fail
      rw [← eW]
      clear eW
      go_wp2_with (first
        | (go_at_call 12; refine (X1.out _ WB.out).mono ?_; rintro e w1 ⟨rfl, hb⟩; have D1 : Hid (Below W.heap.size W w1) := hb; clear hb a0 a1 a2 a3 a4 a5; obtain ⟨a0, a1, a2, a3, a4, a5⟩ := CA.out w1 D1.out)
        | (go_at_call 14; refine (Q2.out _ (WB.out.trans (D1.out.mono WB.out.size))).mono ?_; rintro e w2 ⟨rfl, hb⟩; have B2 : Hid (Below w.heap.size w w2) := WB.out.trans ((D1.out.trans (hb.mono D1.out.size)).mono WB.out.size); clear hb))
      go_ret
      exact ⟨by first | rfl | simp, B2.out⟩
    · rw [r2] at Q2
      have X2 : Hid _ := Q2
      have X3 : Hid _ := Q3
      clear Q2 Q3 r2
      generalize smL (smAc d) m.ac m'.ac = r3 at *
      go_enter Try.func5, Try.ntmps5
      go_upto_region 1 with fail
      rw [← eW]
      clear eW
      go_wp2_with (first
        | (go_at_call 12; refine (X1.out _ WB.out).mono ?_; rintro e w1 ⟨rfl, hb⟩; have D1 : Hid (Below W.heap.size W w1) := hb; clear hb a0 a1 a2 a3 a4 a5; obtain ⟨a0, a1, a2, a3, a4, a5⟩ := CA.out w1 D1.out)
        | (go_at_call 14; refine (X2.out _ (WB.out.trans (D1.out.mono WB.out.size))).mono ?_; rintro e w2 ⟨rfl, hb⟩; have D2 : Hid (Below W.heap.size W w2) := D1.out.trans (hb.mono D1.out.size); clear hb a0 a1 a2 a3 a4 a5; obtain ⟨a0, a1, a2, a3, a4, a5⟩ := CA.out w2 D2.out)
        | (go_at_call 16; refine (X3.out _ (WB.out.trans (D2.out.mono WB.out.size))).mono ?_; rintro e w3 ⟨rfl, hb⟩; have B3 : Hid (Below w.heap.size w w3) := WB.out.trans ((D2.out.trans (hb.mono D2.out.size)).mono WB.out.size); clear hb))
      go_ret
      exact ⟨by first | rfl | simp, B3.out⟩
end Go.Proofs.Ytcoeinfopfcekaa
