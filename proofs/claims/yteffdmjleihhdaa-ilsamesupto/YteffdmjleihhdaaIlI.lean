/- Instructions that are alike told the same in all fields; no statement of the seat is proved here. -/
import Derived.Test.YteffdmjleihhdaaIlH
import Derived.Test.YteffdmjleihhdaaIlF
namespace Go.Proofs.Yteffdmjleihhdaa
set_option linter.unusedVariables false
open Go.RowKit
set_option maxRecDepth 20000 in
set_option maxHeartbeats 8000000 in
theorem all_same (d : Nat) (x y : Option Addr) (l : List Il) (c c2 : Nat) (w : World) (ha : IlL (fun b => b < w.heap.size) d w x l) (hb : IlL (fun b => b < w.heap.size) d w y l) :
    Calls Try.prog 7 #[.slice x l.length c, .slice y l.length c2] w fun e w' => e = .returned (.bool true) ∧ Below w.heap.size w w' := by
  have HA : Hid (IlL (fun b => b < w.heap.size) d w x l) := ha
  have HB : Hid (IlL (fun b => b < w.heap.size) d w y l) := hb
  clear ha hb
  go_enter Try.func7, Try.ntmps7
  go_wp2_with fail
  go_loopw [16] (fun i wr => ∃ k : Nat, k ≤ l.length ∧ i = .int .i64 k ∧ Below w.heap.size w wr) (fun i _ => l.length - (intOf i).toNat)
  case atStart => exact ⟨0, Nat.zero_le _, rfl, Below.refl _ _⟩
  case round =>
    obtain ⟨k, hk, rfl, hbw⟩ := hrel
    have HW : Hid (Below w.heap.size w wr) := hbw
    by_cases hlt : k < l.length
    · obtain ⟨a, rfl⟩ : ∃ a, x = some a := by
        cases x with
        | none => have := HA.out.2.1 rfl; rw [this] at hlt; exact absurd hlt (Nat.not_lt_zero _)
        | some a => exact ⟨a, rfl⟩
      obtain ⟨b, rfl⟩ : ∃ b, y = some b := by
        cases y with
        | none => have := HB.out.2.1 rfl; rw [this] at hlt; exact absurd hlt (Nat.not_lt_zero _)
        | some b => exact ⟨b, rfl⟩
      obtain ⟨t1, p10, q10, p11, q11, p12, q12, p13, q13, ee1, hp1, ec1, ev1⟩ := (HA.out.fr (old_fr hbw)).el k hlt
      obtain ⟨t2, p20, q20, p21, q21, p22, q22, p23, q23, ee2, hp2, ec2, ev2⟩ := (HB.out.fr (old_fr hbw)).el k hlt
      have tt := Option.some.inj (ee1.symm.trans ee2)
      subst tt
      have V1 : Hid (IlP (fun b => b < w.heap.size) d wr p10 p11 p12 p13 t1) := ev1
      have V2 : Hid (IlP (fun b => b < w.heap.size) d wr p20 p21 p22 p23 t1) := ev2
      have LT : Hid (k < l.length) := hlt
      have kl : (k : Int) < l.length := by omega
      obtain ⟨x0, x1, x2, x3, x4, x5, x6, x7, x8, x9, x10⟩ := ec1
      obtain ⟨y0, y1, y2, y3, y4, y5, y6, y7, y8, y9, y10⟩ := ec2
      clear hbw hlt ee1 ee2 ev1 ev2 hp1 hp2
      have za := block_lt_of_cell x0
      have zb := block_lt_of_cell y0
      go_upto_region 7 with fail
      obtain ⟨W, eW⟩ : ∃ W, W = (wr.alloc (.cells #[.int .i64 t1.h.pl, .string t1.h.lb, .string t1.h.op, .bool t1.h.nt, .bool t1.h.cd, .bool t1.h.ob, .string t1.h.nm, .slice p10 t1.ag.length q10, .slice p11 t1.ns.length q11, .slice p12 t1.os.length q12, .slice p13 t1.on.length q13] 28)).alloc (.cells #[.int .i64 t1.h.pl, .string t1.h.lb, .string t1.h.op, .bool t1.h.nt, .bool t1.h.cd, .bool t1.h.ob, .string t1.h.nm, .slice p20 t1.ag.length q20, .slice p21 t1.ns.length q21, .slice p22 t1.os.length q22, .slice p23 t1.on.length q23] 28) := ⟨_, rfl⟩
      have X0 : Hid (W.heap[wr.heap.size]? = some (.cells #[.int .i64 t1.h.pl, .string t1.h.lb, .string t1.h.op, .bool t1.h.nt, .bool t1.h.cd, .bool t1.h.ob, .string t1.h.nm, .slice p10 t1.ag.length q10, .slice p11 t1.ns.length q11, .slice p12 t1.os.length q12, .slice p13 t1.on.length q13] 28 (0, 0))) := by rw [eW]; exact (rowsB wr _ _).1
      have Y0 : Hid (W.heap[wr.heap.size + 1]? = some (.cells #[.int .i64 t1.h.pl, .string t1.h.lb, .string t1.h.op, .bool t1.h.nt, .bool t1.h.cd, .bool t1.h.ob, .string t1.h.nm, .slice p20 t1.ag.length q20, .slice p21 t1.ns.length q21, .slice p22 t1.os.length q22, .slice p23 t1.on.length q23] 28 (0, 0))) := by rw [eW]; exact (rowsB wr _ _).2
      have B0 : Hid (Below wr.heap.size wr W) := by rw [eW]; exact ((Below.refl _ _).alloc (Nat.le_refl _) _).alloc (by simp) _
      rw [← eW]
      clear eW x0 x1 x2 x3 x4 x5 x6 x7 x8 x9 x10 y0 y1 y2 y3 y4 y5 y6 y7 y8 y9 y10 za zb
      obtain ⟨a0, a1, a2, a3, a4, a5, a6, a7, a8, a9, a10⟩ := cells11 X0.out
      obtain ⟨b0, b1, b2, b3, b4, b5, b6, b7, b8, b9, b10⟩ := cells11 Y0.out
      have FR : Hid (∀ W, Below wr.heap.size wr W → FrS (fun b => b < w.heap.size) wr W) := fun W hb q hq => hb.cell (Nat.lt_of_lt_of_le hq HW.out.size)
      have Q0 : Hid (∀ W, Below wr.heap.size wr W → Calls Try.prog 14 #[.slice p10 t1.ag.length q10, .slice p20 t1.ag.length q20] W fun e w' => e = .returned (.bool true) ∧ Below W.heap.size W w') := fun W hb => plL_of d W _ _ t1.ag _ _ ((V1.out.fr (FR.out W hb)).1).at ((V2.out.fr (FR.out W hb)).1).at
      have Q1 : Hid (∀ W, Below wr.heap.size wr W → Calls Try.prog 15 #[.slice p11 t1.ns.length q11, .slice p21 t1.ns.length q21] W fun e w' => e = .returned (.bool true) ∧ Below W.heap.size W w') := fun W hb => by have := EqualT _ _ t1.ns t1.ns q11 q21 W ((V1.out.fr (FR.out W hb)).2.1.1).1 ((V2.out.fr (FR.out W hb)).2.1.1).1 (Nat.lt_trans V1.out.2.1.2 (by decide)); simpa using this
      have Q2 : Hid (∀ W, Below wr.heap.size wr W → Calls Try.prog 14 #[.slice p12 t1.os.length q12, .slice p22 t1.os.length q22] W fun e w' => e = .returned (.bool true) ∧ Below W.heap.size W w') := fun W hb => plL_of d W _ _ t1.os _ _ ((V1.out.fr (FR.out W hb)).2.2.1).at ((V2.out.fr (FR.out W hb)).2.2.1).at
      have Q3 : Hid (∀ W, Below wr.heap.size wr W → Calls Try.prog 15 #[.slice p13 t1.on.length q13, .slice p23 t1.on.length q23] W fun e w' => e = .returned (.bool true) ∧ Below W.heap.size W w') := fun W hb => by have := EqualT _ _ t1.on t1.on q13 q23 W ((V1.out.fr (FR.out W hb)).2.2.2.1).1 ((V2.out.fr (FR.out W hb)).2.2.2.1).1 (Nat.lt_trans V1.out.2.2.2.2 (by decide)); simpa using this
      clear V1 V2 FR
      have ew : wrap64 ((k : Int) + 1) = (k : Int) + 1 := by have := HA.out.1; have := LT.out; unfold wrap64; omega
      go_wp2_with (first | (go_at_call 15; refine (Q3.out _ BB2.out).mono ?_; rintro e w3 ⟨rfl, hb⟩; have BB3 : Hid (Below wr.heap.size wr w3) := BB2.out.trans (hb.mono BB2.out.size); clear hb) | (go_at_call 15; refine (Q1.out _ BB1.out).mono ?_; rintro e w2 ⟨rfl, hb⟩; have BB2 : Hid (Below wr.heap.size wr w2) := BB1.out.trans (hb.mono BB1.out.size); have XX2 : Hid (w2.heap[wr.heap.size]? = some (.cells #[.int .i64 t1.h.pl, .string t1.h.lb, .string t1.h.op, .bool t1.h.nt, .bool t1.h.cd, .bool t1.h.ob, .string t1.h.nm, .slice p10 t1.ag.length q10, .slice p11 t1.ns.length q11, .slice p12 t1.os.length q12, .slice p13 t1.on.length q13] 28 (0, 0))) := (hb.block _ (lt_of_block XX1.out)).trans XX1.out; have YY2 : Hid (w2.heap[wr.heap.size + 1]? = some (.cells #[.int .i64 t1.h.pl, .string t1.h.lb, .string t1.h.op, .bool t1.h.nt, .bool t1.h.cd, .bool t1.h.ob, .string t1.h.nm, .slice p20 t1.ag.length q20, .slice p21 t1.ns.length q21, .slice p22 t1.os.length q22, .slice p23 t1.on.length q23] 28 (0, 0))) := (hb.block _ (lt_of_block YY1.out)).trans YY1.out; have kk2 : w2.cell? ⟨wr.heap.size, 10, none⟩ = some (.slice p13 t1.on.length q13) := (by simp [World.cell?, XX2.out]); have jj2 : w2.cell? ⟨wr.heap.size + 1, 10, none⟩ = some (.slice p23 t1.on.length q23) := (by simp [World.cell?, YY2.out]); clear hb) | (go_at_call 14; refine (Q2.out _ BB0.out).mono ?_; rintro e w1 ⟨rfl, hb⟩; have BB1 : Hid (Below wr.heap.size wr w1) := BB0.out.trans (hb.mono BB0.out.size); have XX1 : Hid (w1.heap[wr.heap.size]? = some (.cells #[.int .i64 t1.h.pl, .string t1.h.lb, .string t1.h.op, .bool t1.h.nt, .bool t1.h.cd, .bool t1.h.ob, .string t1.h.nm, .slice p10 t1.ag.length q10, .slice p11 t1.ns.length q11, .slice p12 t1.os.length q12, .slice p13 t1.on.length q13] 28 (0, 0))) := (hb.block _ (lt_of_block XX0.out)).trans XX0.out; have YY1 : Hid (w1.heap[wr.heap.size + 1]? = some (.cells #[.int .i64 t1.h.pl, .string t1.h.lb, .string t1.h.op, .bool t1.h.nt, .bool t1.h.cd, .bool t1.h.ob, .string t1.h.nm, .slice p20 t1.ag.length q20, .slice p21 t1.ns.length q21, .slice p22 t1.os.length q22, .slice p23 t1.on.length q23] 28 (0, 0))) := (hb.block _ (lt_of_block YY0.out)).trans YY0.out; have kk1 : w1.cell? ⟨wr.heap.size, 8, none⟩ = some (.slice p11 t1.ns.length q11) := (by simp [World.cell?, XX1.out]); have jj1 : w1.cell? ⟨wr.heap.size + 1, 8, none⟩ = some (.slice p21 t1.ns.length q21) := (by simp [World.cell?, YY1.out]); clear hb) | (go_at_call 14; refine (Q0.out _ B0.out).mono ?_; rintro e w0 ⟨rfl, hb⟩; have BB0 : Hid (Below wr.heap.size wr w0) := B0.out.trans (hb.mono B0.out.size); have XX0 : Hid (w0.heap[wr.heap.size]? = some (.cells #[.int .i64 t1.h.pl, .string t1.h.lb, .string t1.h.op, .bool t1.h.nt, .bool t1.h.cd, .bool t1.h.ob, .string t1.h.nm, .slice p10 t1.ag.length q10, .slice p11 t1.ns.length q11, .slice p12 t1.os.length q12, .slice p13 t1.on.length q13] 28 (0, 0))) := (hb.block _ (lt_of_block X0.out)).trans X0.out; have YY0 : Hid (w0.heap[wr.heap.size + 1]? = some (.cells #[.int .i64 t1.h.pl, .string t1.h.lb, .string t1.h.op, .bool t1.h.nt, .bool t1.h.cd, .bool t1.h.ob, .string t1.h.nm, .slice p20 t1.ag.length q20, .slice p21 t1.ns.length q21, .slice p22 t1.os.length q22, .slice p23 t1.on.length q23] 28 (0, 0))) := (hb.block _ (lt_of_block Y0.out)).trans Y0.out; have kk0 : w0.cell? ⟨wr.heap.size, 9, none⟩ = some (.slice p12 t1.os.length q12) := (by simp [World.cell?, XX0.out]); have jj0 : w0.cell? ⟨wr.heap.size + 1, 9, none⟩ = some (.slice p22 t1.os.length q22) := (by simp [World.cell?, YY0.out]); clear hb))
      rw [ew]
      exact ⟨⟨k + 1, Nat.succ_le_of_lt LT.out, rfl, HW.out.trans (BB3.out.mono HW.out.size)⟩, msr LT.out⟩
    · have kl : ¬ (k : Int) < l.length := by omega
      clear hbw hlt
      go_wp2
      go_ret
      exact ⟨rfl, HW.out⟩
end Go.Proofs.Yteffdmjleihhdaa
