/- The document's 'address' where no address begins; no statement of the seat is proved here. -/
import Derived.Test.YtdcjngakmkgbmaaGreatCkHK
import Derived.Test.YtdcjngakmkgbmaaGreatLexFK
namespace Go.Proofs.YtdcjngakmkgbmaaGreat
set_option linter.unusedVariables false
open Go.RowKit
theorem eqZv (k b : Int) (s : ByteArray) (w : World) : (binOp .eql 38 (.agg #[.int .u8 k, .int .u64 b, .string s]) (.agg #[.int .u8 0, .int .u64 0, .string ⟨#[]⟩])).run Tryz.prog w = .ok (.bool (decide (k = 0) && decide (b = 0) && emB s)) w := by
  unfold emB
  by_cases h1 : k = 0
  · subst h1
    by_cases h2 : b = 0
    · subst h2
      by_cases h3 : s.toList = []
      · simp [go_sem, h3]
      · simp [go_sem, h3]
    · simp [go_sem, h2]
  · simp [go_sem, h1]
set_option maxRecDepth 20000 in
set_option maxHeartbeats 4000000 in
theorem mayHold_of (o : OpR) (ho : OpOk o) (w : World) : Calls Tryz.prog 97 #[OpV o] w fun e w' => e = .returned (.bool (hdB o)) ∧ Below w.heap.size w w' := by
  obtain ⟨h1, h2, h3, h4, h5, h6, h7, h8, h9, h10⟩ := ho
  have g8 := wf_u8 h8
  have g9 := wf_u64 h9
  have g10 := sh_max h10
  clear h1 h2 h3 h4 h5 h6 h7 h8 h9 h10
  obtain ⟨cd, oa, ob, oc, od, lo, hi, vk, vb, vs⟩ := o
  simp only at g8 g9 g10
  unfold hdB
  simp only
  have M1 : Hid (∀ W, Calls Tryz.prog 123 #[.agg #[.int .u8 vk, .int .u64 vb, .string vs]] W fun e w' => e = .returned (.bool (may3 vk vb vs)) ∧ Below W.heap.size W w') := fun W => May_of vk vb vs W g9.1 g9.2 g8 g10
  clear g8 g9 g10
  by_cases q : cd = 1
  · subst q
    rw [if_pos rfl]
    have ev := eqNw vk vb vs
    generalize may3 vk vb vs = r1 at *
    generalize nwB vk vb vs = r2 at *
    have N1 : Hid (∀ W, Calls Tryz.prog 119 #[] W fun e w' => e = .returned (.agg #[.int .u8 20, .int .u64 0, .string ⟨#[]⟩]) ∧ Below W.heap.size W w') := fun W => nowhere_of W
    cases r1
    all_goals
      go_enter Tryz.func97, Tryz.ntmps97
      go_wp2_with fail
      obtain ⟨AW, eW⟩ : ∃ AW, AW = w.alloc (.cells #[.int .i64 1, .int .i64 oa, .int .i64 ob, .int .i64 oc, .int .i64 od, .int .i64 lo, .int .i64 hi, .int .u8 vk, .int .u64 vb, .string vs] 46 (0, 0)) := ⟨_, rfl⟩
      have AX : AW.heap[w.heap.size]? = some (.cells #[.int .i64 1, .int .i64 oa, .int .i64 ob, .int .i64 oc, .int .i64 od, .int .i64 lo, .int .i64 hi, .int .u8 vk, .int .u64 vb, .string vs] 46 (0, 0)) := by rw [eW]; exact heap_alloc_last _ _
      have AB : Hid (Below w.heap.size w AW) := by rw [eW]; exact (Below.refl _ _).alloc (Nat.le_refl _) _
      rw [← eW]
      clear eW
      have zl := blk_in AX
      have c7 : ∀ y : Sub AW, y.w.cell? ⟨w.heap.size, 7, none⟩ = some (.int .u8 vk) := fun y => (y.h.cell (p := ⟨w.heap.size, 7, none⟩) zl).trans (by simp [World.cell?, AX])
      have c8 : ∀ y : Sub AW, y.w.cell? ⟨w.heap.size, 8, none⟩ = some (.int .u64 vb) := fun y => (y.h.cell (p := ⟨w.heap.size, 8, none⟩) zl).trans (by simp [World.cell?, AX])
      have c9 : ∀ y : Sub AW, y.w.cell? ⟨w.heap.size, 9, none⟩ = some (.string vs) := fun y => (y.h.cell (p := ⟨w.heap.size, 9, none⟩) zl).trans (by simp [World.cell?, AX])
      have M2 : Hid (∀ y : Sub AW, _) := fun y => M1.out y.w
      have N2 : Hid (∀ y : Sub AW, _) := fun y => N1.out y.w
      clear AX
      refine wp_region_sub2 (by kernel_rfl) (by kernel_rfl) ?_
      intro cx
      clear cx
      repeat (first | go_big_quiet_skip | (go_big_quiet_want; go_big_quiet_op; first | go_big_quiet_on | (refine ⟨_, fun _ => rfl, ?_⟩; go_big_quiet_on) | go_big_quiet_call (first | (go_at_call 119; exact calls_sub (N2.out _)) | (go_at_call 123; exact calls_sub (M2.out _)))))
      refine wpQuiet_nil ?_
      rintro _ ⟨y, rfl⟩
      have Y : Hid (Below w.heap.size w y.w) := bl_tr AB.out y.h
      clear c7 c8 c9 N2 M2 zl ev
      go_wp2
      go_ret
      exact ⟨by first | rfl | simp, Y.out⟩
  · rw [if_neg q]
    have p : (cd == 1) = false := by simp [q]
    clear q M1
    have ev := eqZv vk vb vs
    generalize (decide (vk = 0) && decide (vb = 0) && emB vs) = r at *
    go_enter Tryz.func97, Tryz.ntmps97
    go_wp2
    go_ret
    exact ⟨rfl, by go_grown⟩
end Go.Proofs.YtdcjngakmkgbmaaGreat
namespace Go.Proofs.YtdcjngakmkgbmaaGreat
set_option linter.unusedVariables false
open Go.RowKit
theorem ls_bad {f : FlR} {k : Nat} {s : LpR} (h : f.ls[k]? = some s) (hb : lpB f.os.length s = false) : lsB f = false := by
  unfold lsB
  rw [List.all_eq_false]
  exact ⟨s, List.mem_of_getElem? h, by rw [hb]; simp⟩
set_option maxRecDepth 20000 in
set_option maxHeartbeats 4000000 in
theorem mayLoop_of (f : FlR) (x1 x2 : Option Addr) (p1 p2 : Nat) (w : World) {S : Nat → Prop} (hS : ∀ b, S b → b < w.heap.size) (ha : RwF 3 (Is lpC) S w x2 f.ls) : Calls Tryz.prog 53 #[FlV f x1 x2 p1 p2] w fun e w' => e = .returned (.bool (lsB f)) ∧ Below w.heap.size w w' := by
  have HA : Hid (RwF 3 (Is lpC) S w x2 f.ls) := ha
  have HS : Hid (∀ b, S b → b < w.heap.size) := hS
  clear ha hS
  generalize hv : lsB f = VV
  have HV : Hid (lsB f = VV) := hv
  clear hv
  obtain ⟨AW, eW⟩ : ∃ AW, AW = w.alloc (.cells #[.string f.nm, .int .i64 f.wh, .int .i64 f.ce, .int .i64 f.ba, .int .i64 f.rg, .int .i64 f.sl, .slice x1 f.os.length p1, .slice x2 f.ls.length p2] 44 (0, 0)) := ⟨_, rfl⟩
  have AX : Hid (AW.heap[w.heap.size]? = some (.cells #[.string f.nm, .int .i64 f.wh, .int .i64 f.ce, .int .i64 f.ba, .int .i64 f.rg, .int .i64 f.sl, .slice x1 f.os.length p1, .slice x2 f.ls.length p2] 44 (0, 0))) := by rw [eW]; exact heap_alloc_last _ _
  have AB : Hid (Below w.heap.size w AW) := by rw [eW]; exact (Below.refl _ _).alloc (Nat.le_refl _) _
  go_enter Tryz.func53, Tryz.ntmps53
  go_wp2_with fail
  rw [← eW]
  clear eW
  go_loopw [8] (fun i wr => ∃ k : Nat, k ≤ f.ls.length ∧ i = .int .i64 k ∧ Below w.heap.size w wr ∧ wr.heap[w.heap.size]? = some (.cells #[.string f.nm, .int .i64 f.wh, .int .i64 f.ce, .int .i64 f.ba, .int .i64 f.rg, .int .i64 f.sl, .slice x1 f.os.length p1, .slice x2 f.ls.length p2] 44 (0, 0)) ∧ ∀ (j : Nat) s, j < k → f.ls[j]? = some s → lpB f.os.length s = true) (fun i _ => f.ls.length - (intOf i).toNat)
  case atStart => exact ⟨0, Nat.zero_le _, rfl, AB.out, AX.out, fun j s hj => absurd hj (Nat.not_lt_zero _)⟩
  case round =>
    obtain ⟨k, hk, rfl, hbw, hx, hall⟩ := hrel
    have HW : Hid (Below w.heap.size w wr) := hbw
    have HX : Hid (wr.heap[w.heap.size]? = some (.cells #[.string f.nm, .int .i64 f.wh, .int .i64 f.ce, .int .i64 f.ba, .int .i64 f.rg, .int .i64 f.sl, .slice x1 f.os.length p1, .slice x2 f.ls.length p2] 44 (0, 0))) := hx
    have AL : Hid _ := hall
    clear hall AX AB
    by_cases hlt : k < f.ls.length
    · obtain ⟨a, rfl⟩ := HA.out.some (by omega)
      obtain ⟨s, sv, se, _, rfl, sk⟩ := (HA.out.fr (w' := wr) (fun q hq => hbw.cell (HS.out _ hq))).el k hlt
      have e0 := sk.c0
      have e1 := sk.cp 0 _ rfl
      have e2 := sk.cp 1 _ rfl
      have ES : Hid (f.ls[k]? = some s) := se
      have LT : Hid (k < f.ls.length) := hlt
      have kl : (k : Int) < f.ls.length := by omega
      clear hbw se hlt sk
      have za := block_lt_of_cell e0
      have GA : Hid (∀ X : Obj, Below wr.heap.size wr (wr.alloc X)) := fun X => (Below.refl _ _).alloc (Nat.le_refl _) _
      have k6 : ∀ X : Obj, (wr.alloc X).cell? ⟨w.heap.size, 6, none⟩ = some (.slice x1 f.os.length p1) := fun X => ((GA.out X).cell (p := ⟨w.heap.size, 6, none⟩) (blk_in hx)).trans (by simp [World.cell?, hx])
      clear hx
      obtain ⟨hd, en, tm⟩ := s
      simp only at e0 e1 e2
      by_cases c1 : 0 ≤ hd
      case neg =>
        have ans : lsB f = false := ls_bad ES.out (by unfold lpB; simp [c1])
        have AN : Hid _ := ans
        clear ans
        have ev : VV = false := HV.out.symm.trans AN.out
        subst ev
        go_wp2
        go_ret
        exact ⟨rfl, HW.out.trans ((GA.out _).mono HW.out.size)⟩
      by_cases c2 : hd ≤ en
      case neg =>
        have ans : lsB f = false := ls_bad ES.out (by unfold lpB; simp [c2])
        have AN : Hid _ := ans
        clear ans
        have ev : VV = false := HV.out.symm.trans AN.out
        subst ev
        go_wp2
        go_ret
        exact ⟨rfl, HW.out.trans ((GA.out _).mono HW.out.size)⟩
      by_cases c3 : en ≤ f.os.length
      case neg =>
        have ans : lsB f = false := ls_bad ES.out (by unfold lpB; simp [c3])
        have AN : Hid _ := ans
        clear ans
        have ev : VV = false := HV.out.symm.trans AN.out
        subst ev
        go_wp2
        go_ret
        exact ⟨rfl, HW.out.trans ((GA.out _).mono HW.out.size)⟩
      have H1 : Hid (∀ W, Calls Tryz.prog 93 #[.agg #[.int .i64 0, .int .i64 65536], .int .i64 tm] W fun e w' => e = .returned (.bool (inB 0 65536 tm)) ∧ Below W.heap.size W w') := fun W => has_of _ _ _ W
      have LP : Hid (lpB f.os.length ⟨hd, en, tm⟩ = inB 0 65536 tm) := by show lpB _ _ = _; unfold lpB; simp [c1, c2, c3]
      generalize inB 0 65536 tm = r at *
      go_wp2_with fail
      refine (H1.out _).mono ?_
      rintro e w5 ⟨rfl, hb⟩
      have B5 : Hid (Below wr.heap.size wr w5) := (GA.out _).trans (hb.mono (GA.out _).size)
      clear hb e0 e1 e2 za k6
      cases r
      · have ev : VV = false := HV.out.symm.trans (ls_bad ES.out LP.out)
        subst ev
        go_wp2
        go_ret
        exact ⟨rfl, HW.out.trans (B5.out.mono HW.out.size)⟩
      · have ew : wrap64 ((k : Int) + 1) = (k : Int) + 1 := by have := HA.out.1; have := LT.out; unfold wrap64; omega
        go_wp2
        rw [ew]
        exact ⟨⟨k + 1, Nat.succ_le_of_lt LT.out, rfl, HW.out.trans (B5.out.mono HW.out.size), (B5.out.block _ (blk_in HX.out)).trans HX.out, fun j t hj ht => by
          rcases Nat.lt_succ_iff_lt_or_eq.1 hj with h | rfl
          · exact AL.out j t h ht
          · rw [ES.out] at ht; cases ht; exact LP.out⟩, msr LT.out⟩
    · have kl : ¬ (k : Int) < f.ls.length := by omega
      have ev : VV = true := HV.out.symm.trans (by
        unfold lsB
        rw [List.all_eq_true]
        intro t ht
        obtain ⟨j, hj⟩ := List.mem_iff_getElem?.1 ht
        exact AL.out j t (by have := (List.getElem?_eq_some_iff.1 hj).1; omega) hj)
      subst ev
      clear hbw hlt hx
      go_wp2
      go_ret
      exact ⟨rfl, HW.out⟩
end Go.Proofs.YtdcjngakmkgbmaaGreat
namespace Go.Proofs.YtdcjngakmkgbmaaGreat
set_option linter.unusedVariables false
open Go.RowKit
set_option maxHeartbeats 1000000 in
theorem inR_of (n b : Int) (w : World) : Calls Tryz.prog 83 #[.int .i64 n, .int .i64 b] w fun e w' => e = .returned (.bool (inB 0 b n)) ∧ w' = w := by
  unfold inB
  by_cases c : 0 ≤ n
  · by_cases d : n ≤ b
    · rw [decide_eq_true c, decide_eq_true d]
      go_enter Tryz.func83, Tryz.ntmps83
      go_wp2
      go_ret
      exact ⟨rfl, rfl⟩
    · rw [decide_eq_true c, decide_eq_false d]
      go_enter Tryz.func83, Tryz.ntmps83
      go_wp2
      go_ret
      exact ⟨rfl, rfl⟩
  · rw [decide_eq_false c]
    go_enter Tryz.func83, Tryz.ntmps83
    go_wp2
    go_ret
    exact ⟨rfl, rfl⟩
set_option maxHeartbeats 2000000 in
theorem widthR4_of (k : Int) (h : 1 ≤ k ∧ k ≤ 20) (w : World) : Calls Tryz.prog 82 #[.int .u8 k] w fun e w' => e = .returned (.int .i64 (wdK k)) ∧ w' = w := by
  rcases kinds20 k h with rfl | rfl | rfl | rfl | rfl | rfl | rfl | rfl | rfl | rfl | rfl | rfl | rfl | rfl | rfl | rfl | rfl | rfl | rfl | rfl
  all_goals
    go_enter Tryz.func82, Tryz.ntmps82
    go_wp2
    go_ret
    exact ⟨rfl, rfl⟩
set_option maxHeartbeats 1000000 in
theorem typedR_of (c : CeR) (w : World) : Calls Tryz.prog 80 #[CeV c] w fun e w' => e = .returned (.agg #[.int .u8 c.kd, .bool c.sb, .int .i64 c.lo, .int .i64 c.hi, .int .i64 c.mx, .bool false, .int .i64 0, .int .i64 0, .string ⟨#[]⟩]) ∧ Below w.heap.size w w' := by
  go_enter Tryz.func80, Tryz.ntmps80
  go_wp2
  exact bodyPost_ret (v := .agg #[.int .u8 c.kd, .bool c.sb, .int .i64 c.lo, .int .i64 c.hi, .int .i64 c.mx, .bool false, .int .i64 0, .int .i64 0, .string ⟨#[]⟩]) (by simp [results, Tryz.results80, go_sem]) rfl ⟨rfl, by go_grown⟩
set_option maxHeartbeats 2000000 in
theorem nearR_of (lo hi : Int) (h : lo ≤ hi) (h1 : -9223372036854775808 ≤ lo ∧ lo < 9223372036854775808) (h2 : -9223372036854775808 ≤ hi ∧ hi < 9223372036854775808) (w : World) : Calls Tryz.prog 115 #[.int .i64 lo, .int .i64 hi] w fun e w' => e = .returned (.bool (decide (hi - lo < 256))) ∧ w' = w := by
  by_cases a : lo < 0 ∧ 0 ≤ hi
  · obtain ⟨a1, a2⟩ := a
    by_cases b : -256 < lo
    · by_cases c : hi < 256
      · have e : wrap64 (hi - lo) = hi - lo := by unfold wrap64; omega
        by_cases d : hi - lo < 256
        · rw [decide_eq_true d]
          go_enter Tryz.func115, Tryz.ntmps115
          go_wp2
          go_ret
          exact ⟨rfl, rfl⟩
        · rw [decide_eq_false d]
          go_enter Tryz.func115, Tryz.ntmps115
          go_wp2
          go_ret
          exact ⟨rfl, rfl⟩
      · have d : ¬ hi - lo < 256 := by omega
        rw [decide_eq_false d]
        go_enter Tryz.func115, Tryz.ntmps115
        go_wp2
        go_ret
        exact ⟨rfl, rfl⟩
    · have d : ¬ hi - lo < 256 := by omega
      rw [decide_eq_false d]
      go_enter Tryz.func115, Tryz.ntmps115
      go_wp2
      go_ret
      exact ⟨rfl, rfl⟩
  · have e : wrap64 (hi - lo) = hi - lo := by unfold wrap64; omega
    by_cases b : lo < 0
    · have c : ¬ 0 ≤ hi := fun q => a ⟨b, q⟩
      by_cases d : hi - lo < 256
      · rw [decide_eq_true d]
        clear a
        go_enter Tryz.func115, Tryz.ntmps115
        go_wp2
        go_ret
        exact ⟨rfl, rfl⟩
      · rw [decide_eq_false d]
        clear a
        go_enter Tryz.func115, Tryz.ntmps115
        go_wp2
        go_ret
        exact ⟨rfl, rfl⟩
    · by_cases d : hi - lo < 256
      · rw [decide_eq_true d]
        clear a
        go_enter Tryz.func115, Tryz.ntmps115
        go_wp2
        go_ret
        exact ⟨rfl, rfl⟩
      · rw [decide_eq_false d]
        clear a
        go_enter Tryz.func115, Tryz.ntmps115
        go_wp2
        go_ret
        exact ⟨rfl, rfl⟩
end Go.Proofs.YtdcjngakmkgbmaaGreat
namespace Go.Proofs.YtdcjngakmkgbmaaGreat
set_option linter.unusedVariables false
open Go.RowKit
set_option maxHeartbeats 2000000 in
theorem addressR_no (s p : ByteArray) (w : World) (hz : 3 < s.size) (Q : Hid (s.extract 0 3 = p)) (P : Hid (capS p = p)) (ps : p.size = 3) (pm : p.size ≤ maxLen) (h : areaB (p[1].toNat : Int) = false ∨ bitN (p[2].toNat : Int) = 0) :
    Calls Tryz.prog 114 #[.string s, .int .i64 0] w fun e w' => e = .returned (.int .i64 (-1)) ∧ Below w.heap.size w w' := by
  have H : Hid (areaB (p[1].toNat : Int) = false ∨ bitN (p[2].toNat : Int) = 0) := h
  clear h
  cases e1 : areaB (p[1].toNat : Int)
  · have n1 : ¬ ((p[1].toNat : Int) = 73) := by intro q; rw [q] at e1; cases e1
    have n2 : ¬ ((p[1].toNat : Int) = 81) := by intro q; rw [q] at e1; cases e1
    have n3 : ¬ ((p[1].toNat : Int) = 77) := by intro q; rw [q] at e1; cases e1
    clear e1 H
    go_enter Tryz.func114, Tryz.ntmps114
    go_wp2_with (go_at_call 113; rw [Q.out]; refine (Upper_of p _ pm).mono ?_; rintro e w1 ⟨rfl, hB⟩; rw [P.out])
    go_returns
    exact ⟨rfl, by assumption⟩
  · have e2 : bitN (p[2].toNat : Int) = 0 := by
      rcases H.out with q | q
      · rw [e1] at q
        cases q
      · exact q
    have n1 : ¬ ((p[2].toNat : Int) = 88) := by intro q; rw [q] at e2; revert e2; decide
    have n2 : ¬ ((p[2].toNat : Int) = 66) := by intro q; rw [q] at e2; revert e2; decide
    have n3 : ¬ ((p[2].toNat : Int) = 87) := by intro q; rw [q] at e2; revert e2; decide
    have n4 : ¬ ((p[2].toNat : Int) = 68) := by intro q; rw [q] at e2; revert e2; decide
    have n5 : ¬ ((p[2].toNat : Int) = 76) := by intro q; rw [q] at e2; revert e2; decide
    clear e1 e2 H
    go_enter Tryz.func114, Tryz.ntmps114
    go_wp2_with (go_at_call 113; rw [Q.out]; refine (Upper_of p _ pm).mono ?_; rintro e w1 ⟨rfl, hB⟩; rw [P.out])
    all_goals first | (go_returns; exact ⟨rfl, by assumption⟩) | (go_light; exfalso; rename_i h _; simp [n1, n2, n3, n4, n5] at h; done) | (go_light; exfalso; rename_i h; simp [n1, n2, n3, n4, n5] at h; done)
end Go.Proofs.YtdcjngakmkgbmaaGreat
