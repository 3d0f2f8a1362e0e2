/- Two codes and two tasks compared; no statement of the seat is proved here. -/
import Derived.Test.YtkickdmomompjaaGreatImCK
namespace Go.Proofs.YtkickdmomompjaaGreat
set_option linter.unusedVariables false
open Go.RowKit
theorem two_at (w2 : World) (X Y : Obj) : ((w2.alloc X).alloc Y).heap[w2.heap.size]? = some X ∧ ((w2.alloc X).alloc Y).heap[w2.heap.size + 1]? = some Y := by
  have q := heap_alloc_last (w2.alloc X) Y
  rw [show (w2.alloc X).heap.size = w2.heap.size + 1 by simp] at q
  exact ⟨(Below.heap_alloc _ _ _ (by simp)).trans (heap_alloc_last _ _), q⟩
set_option maxHeartbeats 4000000 in
theorem sameCode_of (f f' : FlR) (x1 x2 y1 y2 : Option Addr) (c1 c2 d1 d2 : Nat) (w : World) {S : Nat → Prop} (hS : ∀ b, S b → b < w.heap.size) (ha : FlQ S w f x1 x2) (hb : FlQ S w f' y1 y2) :
    Calls Tryz.prog 22 #[.agg #[.string f.nm, .int .i64 f.wh, .int .i64 f.ce, .int .i64 f.ba, .int .i64 f.rg, .int .i64 f.sl, .slice x1 f.os.length c1, .slice x2 f.ls.length c2], .agg #[.string f'.nm, .int .i64 f'.wh, .int .i64 f'.ce, .int .i64 f'.ba, .int .i64 f'.rg, .int .i64 f'.sl, .slice y1 f'.os.length d1, .slice y2 f'.ls.length d2]] w fun e w' => e = .returned (.bool (decide (f = f'))) ∧ Below w.heap.size w w' := by
  have Q1 : Hid (∀ W, Below w.heap.size w W → Calls Tryz.prog 45 #[.slice x1 f.os.length c1, .slice y1 f'.os.length d1] W fun e w' => e = .returned (.bool (decide (f.os = f'.os))) ∧ Below W.heap.size W w') := fun W hb' => EqualO _ _ _ _ _ _ _ (fun b h => Nat.lt_of_lt_of_le (hS b h) hb'.size) (ha.1.fr (fun q hq => hb'.cell (hS _ hq))) (hb.1.fr (fun q hq => hb'.cell (hS _ hq)))
  have Q2 : Hid (∀ W, Below w.heap.size w W → Calls Tryz.prog 46 #[.slice x2 f.ls.length c2, .slice y2 f'.ls.length d2] W fun e w' => e = .returned (.bool (decide (f.ls = f'.ls))) ∧ Below W.heap.size W w') := fun W hb' => EqualL _ _ _ _ _ _ _ (fun b h => Nat.lt_of_lt_of_le (hS b h) hb'.size) (ha.2.fr (fun q hq => hb'.cell (hS _ hq))) (hb.2.fr (fun q hq => hb'.cell (hS _ hq)))
  clear ha hb hS
  have GR : Hid (∀ X Y : Obj, Below w.heap.size w ((w.alloc X).alloc Y)) := fun X Y => ((Below.refl _ _).alloc (Nat.le_refl _) _).alloc (by simp) _
  obtain ⟨nm, wh, ce, ba, rg, sl, os, ls⟩ := f
  obtain ⟨nm', wh', ce', ba', rg', sl', os', ls'⟩ := f'
  simp only at Q1 Q2 ⊢
  by_cases E0 : nm = nm'
  case neg =>
    have q1 : (nm.toList == nm'.toList) = false := by apply Bool.eq_false_iff.2; intro q; exact E0 (ba_ext (by simpa using q))
    have q2 : (nm.toList != nm'.toList) = true := by simp [bne, q1]
    have ed : decide (((⟨nm, wh, ce, ba, rg, sl, os, ls⟩ : FlR)) = ⟨nm', wh', ce', ba', rg', sl', os', ls'⟩) = false := decide_eq_false fun e => E0 (by injection e)
    clear E0
    rw [ed]
    clear ed
    go_enter Tryz.func22, Tryz.ntmps22
    go_wp2
    go_ret
    exact ⟨rfl, GR.out _ _⟩
  subst E0
  by_cases E1 : wh = wh'
  case neg =>
    have q1 : (wh == wh') = false := by simp [E1]
    have q2 : (wh != wh') = true := by simp [bne, q1]
    have ed : decide (((⟨nm, wh, ce, ba, rg, sl, os, ls⟩ : FlR)) = ⟨nm, wh', ce', ba', rg', sl', os', ls'⟩) = false := decide_eq_false fun e => E1 (by injection e)
    clear E1
    rw [ed]
    clear ed
    go_enter Tryz.func22, Tryz.ntmps22
    go_wp2
    go_ret
    exact ⟨rfl, GR.out _ _⟩
  subst E1
  by_cases E2 : ce = ce'
  case neg =>
    have q1 : (ce == ce') = false := by simp [E2]
    have q2 : (ce != ce') = true := by simp [bne, q1]
    have ed : decide (((⟨nm, wh, ce, ba, rg, sl, os, ls⟩ : FlR)) = ⟨nm, wh, ce', ba', rg', sl', os', ls'⟩) = false := decide_eq_false fun e => E2 (by injection e)
    clear E2
    rw [ed]
    clear ed
    go_enter Tryz.func22, Tryz.ntmps22
    go_wp2
    go_ret
    exact ⟨rfl, GR.out _ _⟩
  subst E2
  by_cases E3 : ba = ba'
  case neg =>
    have q1 : (ba == ba') = false := by simp [E3]
    have q2 : (ba != ba') = true := by simp [bne, q1]
    have ed : decide (((⟨nm, wh, ce, ba, rg, sl, os, ls⟩ : FlR)) = ⟨nm, wh, ce, ba', rg', sl', os', ls'⟩) = false := decide_eq_false fun e => E3 (by injection e)
    clear E3
    rw [ed]
    clear ed
    go_enter Tryz.func22, Tryz.ntmps22
    go_wp2
    go_ret
    exact ⟨rfl, GR.out _ _⟩
  subst E3
  by_cases E4 : rg = rg'
  case neg =>
    have q1 : (rg == rg') = false := by simp [E4]
    have q2 : (rg != rg') = true := by simp [bne, q1]
    have ed : decide (((⟨nm, wh, ce, ba, rg, sl, os, ls⟩ : FlR)) = ⟨nm, wh, ce, ba, rg', sl', os', ls'⟩) = false := decide_eq_false fun e => E4 (by injection e)
    clear E4
    rw [ed]
    clear ed
    go_enter Tryz.func22, Tryz.ntmps22
    go_wp2
    go_ret
    exact ⟨rfl, GR.out _ _⟩
  subst E4
  by_cases E5 : sl = sl'
  case neg =>
    have q1 : (sl == sl') = false := by simp [E5]
    have q2 : (sl != sl') = true := by simp [bne, q1]
    have ed : decide (((⟨nm, wh, ce, ba, rg, sl, os, ls⟩ : FlR)) = ⟨nm, wh, ce, ba, rg, sl', os', ls'⟩) = false := decide_eq_false fun e => E5 (by injection e)
    clear E5
    rw [ed]
    clear ed
    go_enter Tryz.func22, Tryz.ntmps22
    go_wp2
    go_ret
    exact ⟨rfl, GR.out _ _⟩
  subst E5
  have ed : decide ((⟨nm, wh, ce, ba, rg, sl, os, ls⟩ : FlR) = ⟨nm, wh, ce, ba, rg, sl, os', ls'⟩) = (decide (os = os') && decide (ls = ls')) := by
    rw [← Bool.decide_and]
    apply decide_eq_decide.2
    constructor
    · intro e; injection e; exact ⟨by assumption, by assumption⟩
    · rintro ⟨h1, h2⟩
      rw [h1, h2]
  rw [ed]
  clear ed
  generalize decide (os = os') = r1 at *
  generalize decide (ls = ls') = r2 at *
  go_enter Tryz.func22, Tryz.ntmps22
  go_wp2_with fail
  refine (Q1.out _ (GR.out _ _)).mono ?_
  rintro e w1 ⟨rfl, hb⟩
  have X1 := (hb.block w.heap.size (by simp; omega)).trans (two_at w _ _).1
  have Y1 := (hb.block (w.heap.size + 1) (by simp)).trans (two_at w _ _).2
  have k1 : w1.cell? ⟨w.heap.size, 7, none⟩ = some (.slice x2 ls.length c2) := by simp [World.cell?, X1]
  have k2 : w1.cell? ⟨w.heap.size + 1, 7, none⟩ = some (.slice y2 ls'.length d2) := by simp [World.cell?, Y1]
  have B1 : Hid (Below w.heap.size w w1) := (GR.out _ _).trans (hb.mono (GR.out _ _).size)
  clear hb X1 Y1
  cases r1
  · go_wp2
    go_ret
    exact ⟨rfl, B1.out⟩
  · go_wp2_with fail
    refine (Q2.out _ B1.out).mono ?_
    rintro e w2 ⟨rfl, hb⟩
    have B2 : Hid (Below w.heap.size w w2) := B1.out.trans (hb.mono B1.out.size)
    clear hb
    cases r2
    all_goals
      go_wp2
      go_ret
      exact ⟨rfl, B2.out⟩
set_option maxHeartbeats 4000000 in
theorem SameFlat_of (f f' : FlR) (x1 x2 y1 y2 : Option Addr) (c1 c2 d1 d2 : Nat) (w : World) {S : Nat → Prop} (hS : ∀ b, S b → b < w.heap.size) (ha : FlQ S w f x1 x2) (hb : FlQ S w f' y1 y2) :
    Calls Tryz.prog 43 #[.agg #[.string f.nm, .int .i64 f.wh, .int .i64 f.ce, .int .i64 f.ba, .int .i64 f.rg, .int .i64 f.sl, .slice x1 f.os.length c1, .slice x2 f.ls.length c2], .agg #[.string f'.nm, .int .i64 f'.wh, .int .i64 f'.ce, .int .i64 f'.ba, .int .i64 f'.rg, .int .i64 f'.sl, .slice y1 f'.os.length d1, .slice y2 f'.ls.length d2]] w fun e w' => e = .returned (.bool (decide (f = f'))) ∧ Below w.heap.size w w' := by
  have Q1 : Hid (∀ W, Below w.heap.size w W → Calls Tryz.prog 45 #[.slice x1 f.os.length c1, .slice y1 f'.os.length d1] W fun e w' => e = .returned (.bool (decide (f.os = f'.os))) ∧ Below W.heap.size W w') := fun W hb' => EqualO _ _ _ _ _ _ _ (fun b h => Nat.lt_of_lt_of_le (hS b h) hb'.size) (ha.1.fr (fun q hq => hb'.cell (hS _ hq))) (hb.1.fr (fun q hq => hb'.cell (hS _ hq)))
  have Q2 : Hid (∀ W, Below w.heap.size w W → Calls Tryz.prog 46 #[.slice x2 f.ls.length c2, .slice y2 f'.ls.length d2] W fun e w' => e = .returned (.bool (decide (f.ls = f'.ls))) ∧ Below W.heap.size W w') := fun W hb' => EqualL _ _ _ _ _ _ _ (fun b h => Nat.lt_of_lt_of_le (hS b h) hb'.size) (ha.2.fr (fun q hq => hb'.cell (hS _ hq))) (hb.2.fr (fun q hq => hb'.cell (hS _ hq)))
  clear ha hb hS
  have GR : Hid (∀ X Y : Obj, Below w.heap.size w ((w.alloc X).alloc Y)) := fun X Y => ((Below.refl _ _).alloc (Nat.le_refl _) _).alloc (by simp) _
  obtain ⟨nm, wh, ce, ba, rg, sl, os, ls⟩ := f
  obtain ⟨nm', wh', ce', ba', rg', sl', os', ls'⟩ := f'
  simp only at Q1 Q2 ⊢
  by_cases E0 : nm = nm'
  case neg =>
    have q1 : (nm.toList == nm'.toList) = false := by apply Bool.eq_false_iff.2; intro q; exact E0 (ba_ext (by simpa using q))
    have q2 : (nm.toList != nm'.toList) = true := by simp [bne, q1]
    have ed : decide (((⟨nm, wh, ce, ba, rg, sl, os, ls⟩ : FlR)) = ⟨nm', wh', ce', ba', rg', sl', os', ls'⟩) = false := decide_eq_false fun e => E0 (by injection e)
    clear E0
    rw [ed]
    clear ed
    go_enter Tryz.func43, Tryz.ntmps43
    go_wp2
    go_ret
    exact ⟨rfl, GR.out _ _⟩
  subst E0
  by_cases E1 : wh = wh'
  case neg =>
    have q1 : (wh == wh') = false := by simp [E1]
    have q2 : (wh != wh') = true := by simp [bne, q1]
    have ed : decide (((⟨nm, wh, ce, ba, rg, sl, os, ls⟩ : FlR)) = ⟨nm, wh', ce', ba', rg', sl', os', ls'⟩) = false := decide_eq_false fun e => E1 (by injection e)
    clear E1
    rw [ed]
    clear ed
    go_enter Tryz.func43, Tryz.ntmps43
    go_wp2
    go_ret
    exact ⟨rfl, GR.out _ _⟩
  subst E1
  by_cases E2 : ce = ce'
  case neg =>
    have q1 : (ce == ce') = false := by simp [E2]
    have q2 : (ce != ce') = true := by simp [bne, q1]
    have ed : decide (((⟨nm, wh, ce, ba, rg, sl, os, ls⟩ : FlR)) = ⟨nm, wh, ce', ba', rg', sl', os', ls'⟩) = false := decide_eq_false fun e => E2 (by injection e)
    clear E2
    rw [ed]
    clear ed
    go_enter Tryz.func43, Tryz.ntmps43
    go_wp2
    go_ret
    exact ⟨rfl, GR.out _ _⟩
  subst E2
  by_cases E3 : ba = ba'
  case neg =>
    have q1 : (ba == ba') = false := by simp [E3]
    have q2 : (ba != ba') = true := by simp [bne, q1]
    have ed : decide (((⟨nm, wh, ce, ba, rg, sl, os, ls⟩ : FlR)) = ⟨nm, wh, ce, ba', rg', sl', os', ls'⟩) = false := decide_eq_false fun e => E3 (by injection e)
    clear E3
    rw [ed]
    clear ed
    go_enter Tryz.func43, Tryz.ntmps43
    go_wp2
    go_ret
    exact ⟨rfl, GR.out _ _⟩
  subst E3
  by_cases E4 : rg = rg'
  case neg =>
    have q1 : (rg == rg') = false := by simp [E4]
    have q2 : (rg != rg') = true := by simp [bne, q1]
    have ed : decide (((⟨nm, wh, ce, ba, rg, sl, os, ls⟩ : FlR)) = ⟨nm, wh, ce, ba, rg', sl', os', ls'⟩) = false := decide_eq_false fun e => E4 (by injection e)
    clear E4
    rw [ed]
    clear ed
    go_enter Tryz.func43, Tryz.ntmps43
    go_wp2
    go_ret
    exact ⟨rfl, GR.out _ _⟩
  subst E4
  by_cases E5 : sl = sl'
  case neg =>
    have q1 : (sl == sl') = false := by simp [E5]
    have q2 : (sl != sl') = true := by simp [bne, q1]
    have ed : decide (((⟨nm, wh, ce, ba, rg, sl, os, ls⟩ : FlR)) = ⟨nm, wh, ce, ba, rg, sl', os', ls'⟩) = false := decide_eq_false fun e => E5 (by injection e)
    clear E5
    rw [ed]
    clear ed
    go_enter Tryz.func43, Tryz.ntmps43
    go_wp2
    go_ret
    exact ⟨rfl, GR.out _ _⟩
  subst E5
  have ed : decide ((⟨nm, wh, ce, ba, rg, sl, os, ls⟩ : FlR) = ⟨nm, wh, ce, ba, rg, sl, os', ls'⟩) = (decide (os = os') && decide (ls = ls')) := by
    rw [← Bool.decide_and]
    apply decide_eq_decide.2
    constructor
    · intro e; injection e; exact ⟨by assumption, by assumption⟩
    · rintro ⟨h1, h2⟩
      rw [h1, h2]
  rw [ed]
  clear ed
  generalize decide (os = os') = r1 at *
  generalize decide (ls = ls') = r2 at *
  go_enter Tryz.func43, Tryz.ntmps43
  go_wp2_with fail
  refine (Q1.out _ (GR.out _ _)).mono ?_
  rintro e w1 ⟨rfl, hb⟩
  have X1 := (hb.block w.heap.size (by simp; omega)).trans (two_at w _ _).1
  have Y1 := (hb.block (w.heap.size + 1) (by simp)).trans (two_at w _ _).2
  have k1 : w1.cell? ⟨w.heap.size, 7, none⟩ = some (.slice x2 ls.length c2) := by simp [World.cell?, X1]
  have k2 : w1.cell? ⟨w.heap.size + 1, 7, none⟩ = some (.slice y2 ls'.length d2) := by simp [World.cell?, Y1]
  have B1 : Hid (Below w.heap.size w w1) := (GR.out _ _).trans (hb.mono (GR.out _ _).size)
  clear hb X1 Y1
  cases r1
  · go_wp2
    go_ret
    exact ⟨rfl, B1.out⟩
  · go_wp2_with fail
    refine (Q2.out _ B1.out).mono ?_
    rintro e w2 ⟨rfl, hb⟩
    have B2 : Hid (Below w.heap.size w w2) := B1.out.trans (hb.mono B1.out.size)
    clear hb
    cases r2
    all_goals
      go_wp2
      go_ret
      exact ⟨rfl, B2.out⟩
set_option maxHeartbeats 4000000 in
theorem sameJob_of (f f' : JbR) (x1 x2 y1 y2 : Option Addr) (c1 c2 d1 d2 : Nat) (w : World) {S : Nat → Prop} (hS : ∀ b, S b → b < w.heap.size) (ha : JbQ S w f x1 x2) (hb : JbQ S w f' y1 y2) :
    Calls Tryz.prog 24 #[.agg #[.string f.nm, .int .i64 f.iv, .int .i64 f.sg, .int .i64 f.pr, .slice x1 f.cs.length c1, .slice x2 f.bs.length c2, .int .i64 f.bd], .agg #[.string f'.nm, .int .i64 f'.iv, .int .i64 f'.sg, .int .i64 f'.pr, .slice y1 f'.cs.length d1, .slice y2 f'.bs.length d2, .int .i64 f'.bd]] w fun e w' => e = .returned (.bool (decide (f = f'))) ∧ Below w.heap.size w w' := by
  have Q1 : Hid (∀ W, Below w.heap.size w W → Calls Tryz.prog 44 #[.slice x1 f.cs.length c1, .slice y1 f'.cs.length d1] W fun e w' => e = .returned (.bool (decide (f.cs = f'.cs))) ∧ Below W.heap.size W w') := fun W hb' => EqualN _ _ _ _ _ _ _ (fun b h => Nat.lt_of_lt_of_le (hS b h) hb'.size) (ha.1.fr (fun q hq => hb'.cell (hS _ hq))) (hb.1.fr (fun q hq => hb'.cell (hS _ hq)))
  have Q2 : Hid (∀ W, Below w.heap.size w W → Calls Tryz.prog 44 #[.slice x2 f.bs.length c2, .slice y2 f'.bs.length d2] W fun e w' => e = .returned (.bool (decide (f.bs = f'.bs))) ∧ Below W.heap.size W w') := fun W hb' => EqualN _ _ _ _ _ _ _ (fun b h => Nat.lt_of_lt_of_le (hS b h) hb'.size) (ha.2.fr (fun q hq => hb'.cell (hS _ hq))) (hb.2.fr (fun q hq => hb'.cell (hS _ hq)))
  clear ha hb hS
  have GR : Hid (∀ X Y : Obj, Below w.heap.size w ((w.alloc X).alloc Y)) := fun X Y => ((Below.refl _ _).alloc (Nat.le_refl _) _).alloc (by simp) _
  obtain ⟨nm, iv, sg, pr, cs, bs, bd⟩ := f
  obtain ⟨nm', iv', sg', pr', cs', bs', bd'⟩ := f'
  simp only at Q1 Q2 ⊢
  by_cases E0 : nm = nm'
  case neg =>
    have q1 : (nm.toList == nm'.toList) = false := by apply Bool.eq_false_iff.2; intro q; exact E0 (ba_ext (by simpa using q))
    have q2 : (nm.toList != nm'.toList) = true := by simp [bne, q1]
    have ed : decide (((⟨nm, iv, sg, pr, cs, bs, bd⟩ : JbR)) = ⟨nm', iv', sg', pr', cs', bs', bd'⟩) = false := decide_eq_false fun e => E0 (by injection e)
    clear E0
    rw [ed]
    clear ed
    go_enter Tryz.func24, Tryz.ntmps24
    go_wp2
    go_ret
    exact ⟨rfl, GR.out _ _⟩
  subst E0
  by_cases E1 : iv = iv'
  case neg =>
    have q1 : (iv == iv') = false := by simp [E1]
    have q2 : (iv != iv') = true := by simp [bne, q1]
    have ed : decide (((⟨nm, iv, sg, pr, cs, bs, bd⟩ : JbR)) = ⟨nm, iv', sg', pr', cs', bs', bd'⟩) = false := decide_eq_false fun e => E1 (by injection e)
    clear E1
    rw [ed]
    clear ed
    go_enter Tryz.func24, Tryz.ntmps24
    go_wp2
    go_ret
    exact ⟨rfl, GR.out _ _⟩
  subst E1
  by_cases E2 : sg = sg'
  case neg =>
    have q1 : (sg == sg') = false := by simp [E2]
    have q2 : (sg != sg') = true := by simp [bne, q1]
    have ed : decide (((⟨nm, iv, sg, pr, cs, bs, bd⟩ : JbR)) = ⟨nm, iv, sg', pr', cs', bs', bd'⟩) = false := decide_eq_false fun e => E2 (by injection e)
    clear E2
    rw [ed]
    clear ed
    go_enter Tryz.func24, Tryz.ntmps24
    go_wp2
    go_ret
    exact ⟨rfl, GR.out _ _⟩
  subst E2
  by_cases E3 : pr = pr'
  case neg =>
    have q1 : (pr == pr') = false := by simp [E3]
    have q2 : (pr != pr') = true := by simp [bne, q1]
    have ed : decide (((⟨nm, iv, sg, pr, cs, bs, bd⟩ : JbR)) = ⟨nm, iv, sg, pr', cs', bs', bd'⟩) = false := decide_eq_false fun e => E3 (by injection e)
    clear E3
    rw [ed]
    clear ed
    go_enter Tryz.func24, Tryz.ntmps24
    go_wp2
    go_ret
    exact ⟨rfl, GR.out _ _⟩
  subst E3
  by_cases E4 : bd = bd'
  case neg =>
    have q1 : (bd == bd') = false := by simp [E4]
    have q2 : (bd != bd') = true := by simp [bne, q1]
    have ed : decide (((⟨nm, iv, sg, pr, cs, bs, bd⟩ : JbR)) = ⟨nm, iv, sg, pr, cs', bs', bd'⟩) = false := decide_eq_false fun e => E4 (by injection e)
    clear E4
    rw [ed]
    clear ed
    go_enter Tryz.func24, Tryz.ntmps24
    go_wp2
    go_ret
    exact ⟨rfl, GR.out _ _⟩
  subst E4
  have ed : decide ((⟨nm, iv, sg, pr, cs, bs, bd⟩ : JbR) = ⟨nm, iv, sg, pr, cs', bs', bd⟩) = (decide (cs = cs') && decide (bs = bs')) := by
    rw [← Bool.decide_and]
    apply decide_eq_decide.2
    constructor
    · intro e; injection e; exact ⟨by assumption, by assumption⟩
    · rintro ⟨h1, h2⟩
      rw [h1, h2]
  rw [ed]
  clear ed
  generalize decide (cs = cs') = r1 at *
  generalize decide (bs = bs') = r2 at *
  go_enter Tryz.func24, Tryz.ntmps24
  go_wp2_with fail
  refine (Q1.out _ (GR.out _ _)).mono ?_
  rintro e w1 ⟨rfl, hb⟩
  have X1 := (hb.block w.heap.size (by simp; omega)).trans (two_at w _ _).1
  have Y1 := (hb.block (w.heap.size + 1) (by simp)).trans (two_at w _ _).2
  have k1 : w1.cell? ⟨w.heap.size, 5, none⟩ = some (.slice x2 bs.length c2) := by simp [World.cell?, X1]
  have k2 : w1.cell? ⟨w.heap.size + 1, 5, none⟩ = some (.slice y2 bs'.length d2) := by simp [World.cell?, Y1]
  have B1 : Hid (Below w.heap.size w w1) := (GR.out _ _).trans (hb.mono (GR.out _ _).size)
  clear hb X1 Y1
  cases r1
  · go_wp2
    go_ret
    exact ⟨rfl, B1.out⟩
  · go_wp2_with fail
    refine (Q2.out _ B1.out).mono ?_
    rintro e w2 ⟨rfl, hb⟩
    have B2 : Hid (Below w.heap.size w w2) := B1.out.trans (hb.mono B1.out.size)
    clear hb
    cases r2
    all_goals
      go_wp2
      go_ret
      exact ⟨rfl, B2.out⟩
set_option maxHeartbeats 4000000 in
theorem SameJob_of (f f' : JbR) (x1 x2 y1 y2 : Option Addr) (c1 c2 d1 d2 : Nat) (w : World) {S : Nat → Prop} (hS : ∀ b, S b → b < w.heap.size) (ha : JbQ S w f x1 x2) (hb : JbQ S w f' y1 y2) :
    Calls Tryz.prog 20 #[.agg #[.string f.nm, .int .i64 f.iv, .int .i64 f.sg, .int .i64 f.pr, .slice x1 f.cs.length c1, .slice x2 f.bs.length c2, .int .i64 f.bd], .agg #[.string f'.nm, .int .i64 f'.iv, .int .i64 f'.sg, .int .i64 f'.pr, .slice y1 f'.cs.length d1, .slice y2 f'.bs.length d2, .int .i64 f'.bd]] w fun e w' => e = .returned (.bool (decide (f = f'))) ∧ Below w.heap.size w w' := by
  have Q1 : Hid (∀ W, Below w.heap.size w W → Calls Tryz.prog 44 #[.slice x1 f.cs.length c1, .slice y1 f'.cs.length d1] W fun e w' => e = .returned (.bool (decide (f.cs = f'.cs))) ∧ Below W.heap.size W w') := fun W hb' => EqualN _ _ _ _ _ _ _ (fun b h => Nat.lt_of_lt_of_le (hS b h) hb'.size) (ha.1.fr (fun q hq => hb'.cell (hS _ hq))) (hb.1.fr (fun q hq => hb'.cell (hS _ hq)))
  have Q2 : Hid (∀ W, Below w.heap.size w W → Calls Tryz.prog 44 #[.slice x2 f.bs.length c2, .slice y2 f'.bs.length d2] W fun e w' => e = .returned (.bool (decide (f.bs = f'.bs))) ∧ Below W.heap.size W w') := fun W hb' => EqualN _ _ _ _ _ _ _ (fun b h => Nat.lt_of_lt_of_le (hS b h) hb'.size) (ha.2.fr (fun q hq => hb'.cell (hS _ hq))) (hb.2.fr (fun q hq => hb'.cell (hS _ hq)))
  clear ha hb hS
  have GR : Hid (∀ X Y : Obj, Below w.heap.size w ((w.alloc X).alloc Y)) := fun X Y => ((Below.refl _ _).alloc (Nat.le_refl _) _).alloc (by simp) _
  obtain ⟨nm, iv, sg, pr, cs, bs, bd⟩ := f
  obtain ⟨nm', iv', sg', pr', cs', bs', bd'⟩ := f'
  simp only at Q1 Q2 ⊢
  by_cases E0 : nm = nm'
  case neg =>
    have q1 : (nm.toList == nm'.toList) = false := by apply Bool.eq_false_iff.2; intro q; exact E0 (ba_ext (by simpa using q))
    have q2 : (nm.toList != nm'.toList) = true := by simp [bne, q1]
    have ed : decide (((⟨nm, iv, sg, pr, cs, bs, bd⟩ : JbR)) = ⟨nm', iv', sg', pr', cs', bs', bd'⟩) = false := decide_eq_false fun e => E0 (by injection e)
    clear E0
    rw [ed]
    clear ed
    go_enter Tryz.func20, Tryz.ntmps20
    go_wp2
    go_ret
    exact ⟨rfl, GR.out _ _⟩
  subst E0
  by_cases E1 : iv = iv'
  case neg =>
    have q1 : (iv == iv') = false := by simp [E1]
    have q2 : (iv != iv') = true := by simp [bne, q1]
    have ed : decide (((⟨nm, iv, sg, pr, cs, bs, bd⟩ : JbR)) = ⟨nm, iv', sg', pr', cs', bs', bd'⟩) = false := decide_eq_false fun e => E1 (by injection e)
    clear E1
    rw [ed]
    clear ed
    go_enter Tryz.func20, Tryz.ntmps20
    go_wp2
    go_ret
    exact ⟨rfl, GR.out _ _⟩
  subst E1
  by_cases E2 : sg = sg'
  case neg =>
    have q1 : (sg == sg') = false := by simp [E2]
    have q2 : (sg != sg') = true := by simp [bne, q1]
    have ed : decide (((⟨nm, iv, sg, pr, cs, bs, bd⟩ : JbR)) = ⟨nm, iv, sg', pr', cs', bs', bd'⟩) = false := decide_eq_false fun e => E2 (by injection e)
    clear E2
    rw [ed]
    clear ed
    go_enter Tryz.func20, Tryz.ntmps20
    go_wp2
    go_ret
    exact ⟨rfl, GR.out _ _⟩
  subst E2
  by_cases E3 : pr = pr'
  case neg =>
    have q1 : (pr == pr') = false := by simp [E3]
    have q2 : (pr != pr') = true := by simp [bne, q1]
    have ed : decide (((⟨nm, iv, sg, pr, cs, bs, bd⟩ : JbR)) = ⟨nm, iv, sg, pr', cs', bs', bd'⟩) = false := decide_eq_false fun e => E3 (by injection e)
    clear E3
    rw [ed]
    clear ed
    go_enter Tryz.func20, Tryz.ntmps20
    go_wp2
    go_ret
    exact ⟨rfl, GR.out _ _⟩
  subst E3
  by_cases E4 : bd = bd'
  case neg =>
    have q1 : (bd == bd') = false := by simp [E4]
    have q2 : (bd != bd') = true := by simp [bne, q1]
    have ed : decide (((⟨nm, iv, sg, pr, cs, bs, bd⟩ : JbR)) = ⟨nm, iv, sg, pr, cs', bs', bd'⟩) = false := decide_eq_false fun e => E4 (by injection e)
    clear E4
    rw [ed]
    clear ed
    go_enter Tryz.func20, Tryz.ntmps20
    go_wp2
    go_ret
    exact ⟨rfl, GR.out _ _⟩
  subst E4
  have ed : decide ((⟨nm, iv, sg, pr, cs, bs, bd⟩ : JbR) = ⟨nm, iv, sg, pr, cs', bs', bd⟩) = (decide (cs = cs') && decide (bs = bs')) := by
    rw [← Bool.decide_and]
    apply decide_eq_decide.2
    constructor
    · intro e; injection e; exact ⟨by assumption, by assumption⟩
    · rintro ⟨h1, h2⟩
      rw [h1, h2]
  rw [ed]
  clear ed
  generalize decide (cs = cs') = r1 at *
  generalize decide (bs = bs') = r2 at *
  go_enter Tryz.func20, Tryz.ntmps20
  go_wp2_with fail
  refine (Q1.out _ (GR.out _ _)).mono ?_
  rintro e w1 ⟨rfl, hb⟩
  have X1 := (hb.block w.heap.size (by simp; omega)).trans (two_at w _ _).1
  have Y1 := (hb.block (w.heap.size + 1) (by simp)).trans (two_at w _ _).2
  have k1 : w1.cell? ⟨w.heap.size, 5, none⟩ = some (.slice x2 bs.length c2) := by simp [World.cell?, X1]
  have k2 : w1.cell? ⟨w.heap.size + 1, 5, none⟩ = some (.slice y2 bs'.length d2) := by simp [World.cell?, Y1]
  have B1 : Hid (Below w.heap.size w w1) := (GR.out _ _).trans (hb.mono (GR.out _ _).size)
  clear hb X1 Y1
  cases r1
  · go_wp2
    go_ret
    exact ⟨rfl, B1.out⟩
  · go_wp2_with fail
    refine (Q2.out _ B1.out).mono ?_
    rintro e w2 ⟨rfl, hb⟩
    have B2 : Hid (Below w.heap.size w w2) := B1.out.trans (hb.mono B1.out.size)
    clear hb
    cases r2
    all_goals
      go_wp2
      go_ret
      exact ⟨rfl, B2.out⟩
end Go.Proofs.YtkickdmomompjaaGreat
