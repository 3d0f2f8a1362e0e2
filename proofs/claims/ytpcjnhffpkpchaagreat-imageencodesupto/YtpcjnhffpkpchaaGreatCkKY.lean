/- image: may a code's loops be; no statement of the seat is proved here. -/
import Derived.Test.YtpcjnhffpkpchaaGreatCkHY
namespace Go.Proofs.YtpcjnhffpkpchaaGreat
set_option linter.unusedVariables false
open Go.RowKit
theorem ls_bad {f : FlR} {k : Nat} {s : LpR} (h : f.ls[k]? = some s) (hb : lpB f.os.length s = false) : lsB f = false := by
  unfold lsB
  rw [List.all_eq_false]
  exact ⟨s, List.mem_of_getElem? h, by rw [hb]; simp⟩
set_option maxRecDepth 20000 in
set_option maxHeartbeats 4000000 in
theorem mayLoop_of (f : FlR) (x1 x2 : Option Addr) (p1 p2 : Nat) (w : World) {S : Nat → Prop} (hS : ∀ b, S b → b < w.heap.size) (ha : RwF 3 (Is lpC) S w x2 f.ls) : Calls Tryz.prog 55 #[FlV f x1 x2 p1 p2] w fun e w' => e = .returned (.bool (lsB f)) ∧ Below w.heap.size w w' := by
  have HA : Hid (RwF 3 (Is lpC) S w x2 f.ls) := ha
  have HS : Hid (∀ b, S b → b < w.heap.size) := hS
  clear ha hS
  generalize hv : lsB f = VV
  have HV : Hid (lsB f = VV) := hv
  clear hv
  obtain ⟨AW, eW⟩ : ∃ AW, AW = w.alloc (.cells #[.string f.nm, .int .i64 f.wh, .int .i64 f.ce, .int .i64 f.ba, .int .i64 f.rg, .int .i64 f.sl, .slice x1 f.os.length p1, .slice x2 f.ls.length p2] 64 (0, 0)) := ⟨_, rfl⟩
  have AX : Hid (AW.heap[w.heap.size]? = some (.cells #[.string f.nm, .int .i64 f.wh, .int .i64 f.ce, .int .i64 f.ba, .int .i64 f.rg, .int .i64 f.sl, .slice x1 f.os.length p1, .slice x2 f.ls.length p2] 64 (0, 0))) := by rw [eW]; exact heap_alloc_last _ _
  have AB : Hid (Below w.heap.size w AW) := by rw [eW]; exact (Below.refl _ _).alloc (Nat.le_refl _) _
  go_enter Tryz.func55, Tryz.ntmps55
  go_wp2_with fail
  rw [← eW]
  clear eW
  go_loopw [8] (fun i wr => ∃ k : Nat, k ≤ f.ls.length ∧ i = .int .i64 k ∧ Below w.heap.size w wr ∧ wr.heap[w.heap.size]? = some (.cells #[.string f.nm, .int .i64 f.wh, .int .i64 f.ce, .int .i64 f.ba, .int .i64 f.rg, .int .i64 f.sl, .slice x1 f.os.length p1, .slice x2 f.ls.length p2] 64 (0, 0)) ∧ ∀ (j : Nat) s, j < k → f.ls[j]? = some s → lpB f.os.length s = true) (fun i _ => f.ls.length - (intOf i).toNat)
  case atStart => exact ⟨0, Nat.zero_le _, rfl, AB.out, AX.out, fun j s hj => absurd hj (Nat.not_lt_zero _)⟩
  case round =>
    obtain ⟨k, hk, rfl, hbw, hx, hall⟩ := hrel
    have HW : Hid (Below w.heap.size w wr) := hbw
    have HX : Hid (wr.heap[w.heap.size]? = some (.cells #[.string f.nm, .int .i64 f.wh, .int .i64 f.ce, .int .i64 f.ba, .int .i64 f.rg, .int .i64 f.sl, .slice x1 f.os.length p1, .slice x2 f.ls.length p2] 64 (0, 0))) := hx
    have AL : Hid _ := hall
    clear hall AX AB
    by_cases hlt : k < f.ls.length
    · obtain ⟨a, rfl⟩ := HA.out.some (by omega)
      obtain ⟨s, sv, se, _, rfl, sk⟩ := (HA.out.fr (w' := wr) (fun q hq => hbw.cell (HS.out _ hq))).el k hlt
      have e0 := sk.c0
      have e1 := sk.cp 0 _ rfl
      have e2 := sk.cp 1 _ rfl
      have ES : Hid (f.ls[k]? = some s) := se
      have LT : Hid (k < f.ls.length) := hlt
      have kl : (k : Int) < f.ls.length := by omega
      clear hbw se hlt sk
      have za := block_lt_of_cell e0
      have GA : Hid (∀ X : Obj, Below wr.heap.size wr (wr.alloc X)) := fun X => (Below.refl _ _).alloc (Nat.le_refl _) _
      have k6 : ∀ X : Obj, (wr.alloc X).cell? ⟨w.heap.size, 6, none⟩ = some (.slice x1 f.os.length p1) := fun X => ((GA.out X).cell (p := ⟨w.heap.size, 6, none⟩) (blk_in hx)).trans (by simp [World.cell?, hx])
      clear hx
      obtain ⟨hd, en, tm⟩ := s
      simp only at e0 e1 e2
      by_cases c1 : 0 ≤ hd
      case neg =>
        have ans : lsB f = false := ls_bad ES.out (by unfold lpB; simp [c1])
        have AN : Hid _ := ans
        clear ans
        have ev : VV = false := HV.out.symm.trans AN.out
        subst ev
        go_wp2
        go_ret
        exact ⟨rfl, HW.out.trans ((GA.out _).mono HW.out.size)⟩
      by_cases c2 : hd ≤ en
      case neg =>
        have ans : lsB f = false := ls_bad ES.out (by unfold lpB; simp [c2])
        have AN : Hid _ := ans
        clear ans
        have ev : VV = false := HV.out.symm.trans AN.out
        subst ev
        go_wp2
        go_ret
        exact ⟨rfl, HW.out.trans ((GA.out _).mono HW.out.size)⟩
      by_cases c3 : en ≤ f.os.length
      case neg =>
        have ans : lsB f = false := ls_bad ES.out (by unfold lpB; simp [c3])
        have AN : Hid _ := ans
        clear ans
        have ev : VV = false := HV.out.symm.trans AN.out
        subst ev
        go_wp2
        go_ret
        exact ⟨rfl, HW.out.trans ((GA.out _).mono HW.out.size)⟩
      have H1 : Hid (∀ W, Calls Tryz.prog 87 #[.agg #[.int .i64 0, .int .i64 65536], .int .i64 tm] W fun e w' => e = .returned (.bool (inB 0 65536 tm)) ∧ Below W.heap.size W w') := fun W => has_of _ _ _ W
      have LP : Hid (lpB f.os.length ⟨hd, en, tm⟩ = inB 0 65536 tm) := by show lpB _ _ = _; unfold lpB; simp [c1, c2, c3]
      generalize inB 0 65536 tm = r at *
      go_wp2_with fail
      refine (H1.out _).mono ?_
      rintro e w5 ⟨rfl, hb⟩
      have B5 : Hid (Below wr.heap.size wr w5) := (GA.out _).trans (hb.mono (GA.out _).size)
      clear hb e0 e1 e2 za k6
      cases r
      · have ev : VV = false := HV.out.symm.trans (ls_bad ES.out LP.out)
        subst ev
        go_wp2
        go_ret
        exact ⟨rfl, HW.out.trans (B5.out.mono HW.out.size)⟩
      · have ew : wrap64 ((k : Int) + 1) = (k : Int) + 1 := by have := HA.out.1; have := LT.out; unfold wrap64; omega
        go_wp2
        rw [ew]
        exact ⟨⟨k + 1, Nat.succ_le_of_lt LT.out, rfl, HW.out.trans (B5.out.mono HW.out.size), (B5.out.block _ (blk_in HX.out)).trans HX.out, fun j t hj ht => by
          rcases Nat.lt_succ_iff_lt_or_eq.1 hj with h | rfl
          · exact AL.out j t h ht
          · rw [ES.out] at ht; cases ht; exact LP.out⟩, msr LT.out⟩
    · have kl : ¬ (k : Int) < f.ls.length := by omega
      have ev : VV = true := HV.out.symm.trans (by
        unfold lsB
        rw [List.all_eq_true]
        intro t ht
        obtain ⟨j, hj⟩ := List.mem_iff_getElem?.1 ht
        exact AL.out j t (by have := (List.getElem?_eq_some_iff.1 hj).1; omega) hj)
      subst ev
      clear hbw hlt hx
      go_wp2
      go_ret
      exact ⟨rfl, HW.out⟩
end Go.Proofs.YtpcjnhffpkpchaaGreat
