/- image: a reader's lists of codes and of tasks; no statement of the seat is proved here. -/
import Derived.Test.YtkickdmomompjaaGreatCkHK
import Derived.Test.YtkickdmomompjaaGreatKoA8
namespace Go.Proofs.YtkickdmomompjaaGreat
set_option linter.unusedVariables false
open Go.RowKit
theorem eqZv (k b : Int) (s : ByteArray) (w : World) : (binOp .eql 54 (.agg #[.int .u8 k, .int .u64 b, .string s]) (.agg #[.int .u8 0, .int .u64 0, .string ⟨#[]⟩])).run Tryz.prog w = .ok (.bool (decide (k = 0) && decide (b = 0) && emB s)) w := by
  unfold emB
  by_cases h1 : k = 0
  · subst h1
    by_cases h2 : b = 0
    · subst h2
      by_cases h3 : s.toList = []
      · simp [go_sem, h3]
      · simp [go_sem, h3]
    · simp [go_sem, h2]
  · simp [go_sem, h1]
set_option maxRecDepth 20000 in
set_option maxHeartbeats 4000000 in
theorem mayHold_of (o : OpR) (ho : OpOk o) (w : World) : Calls Tryz.prog 67 #[OpV o] w fun e w' => e = .returned (.bool (hdB o)) ∧ Below w.heap.size w w' := by
  obtain ⟨h1, h2, h3, h4, h5, h6, h7, h8, h9, h10⟩ := ho
  have g8 := wf_u8 h8
  have g9 := wf_u64 h9
  have g10 := sh_max h10
  clear h1 h2 h3 h4 h5 h6 h7 h8 h9 h10
  obtain ⟨cd, oa, ob, oc, od, lo, hi, vk, vb, vs⟩ := o
  simp only at g8 g9 g10
  unfold hdB
  simp only
  have M1 : Hid (∀ W, Calls Tryz.prog 83 #[.agg #[.int .u8 vk, .int .u64 vb, .string vs]] W fun e w' => e = .returned (.bool (may3 vk vb vs)) ∧ Below W.heap.size W w') := fun W => May_of vk vb vs W g9.1 g9.2 g8 g10
  clear g8 g9 g10
  by_cases q : cd = 1
  · subst q
    rw [if_pos rfl]
    have ev := eqNw vk vb vs
    generalize may3 vk vb vs = r1 at *
    generalize nwB vk vb vs = r2 at *
    have N1 : Hid (∀ W, Calls Tryz.prog 79 #[] W fun e w' => e = .returned (.agg #[.int .u8 20, .int .u64 0, .string ⟨#[]⟩]) ∧ Below W.heap.size W w') := fun W => nowhere_of W
    cases r1
    all_goals
      go_enter Tryz.func67, Tryz.ntmps67
      go_wp2_with fail
      obtain ⟨AW, eW⟩ : ∃ AW, AW = w.alloc (.cells #[.int .i64 1, .int .i64 oa, .int .i64 ob, .int .i64 oc, .int .i64 od, .int .i64 lo, .int .i64 hi, .int .u8 vk, .int .u64 vb, .string vs] 88 (0, 0)) := ⟨_, rfl⟩
      have AX : AW.heap[w.heap.size]? = some (.cells #[.int .i64 1, .int .i64 oa, .int .i64 ob, .int .i64 oc, .int .i64 od, .int .i64 lo, .int .i64 hi, .int .u8 vk, .int .u64 vb, .string vs] 88 (0, 0)) := by rw [eW]; exact heap_alloc_last _ _
      have AB : Hid (Below w.heap.size w AW) := by rw [eW]; exact (Below.refl _ _).alloc (Nat.le_refl _) _
      rw [← eW]
      clear eW
      have zl := blk_in AX
      have c7 : ∀ y : Sub AW, y.w.cell? ⟨w.heap.size, 7, none⟩ = some (.int .u8 vk) := fun y => (y.h.cell (p := ⟨w.heap.size, 7, none⟩) zl).trans (by simp [World.cell?, AX])
      have c8 : ∀ y : Sub AW, y.w.cell? ⟨w.heap.size, 8, none⟩ = some (.int .u64 vb) := fun y => (y.h.cell (p := ⟨w.heap.size, 8, none⟩) zl).trans (by simp [World.cell?, AX])
      have c9 : ∀ y : Sub AW, y.w.cell? ⟨w.heap.size, 9, none⟩ = some (.string vs) := fun y => (y.h.cell (p := ⟨w.heap.size, 9, none⟩) zl).trans (by simp [World.cell?, AX])
      have M2 : Hid (∀ y : Sub AW, _) := fun y => M1.out y.w
      have N2 : Hid (∀ y : Sub AW, _) := fun y => N1.out y.w
      clear AX
      refine wp_region_sub2 (by kernel_rfl) (by kernel_rfl) ?_
      intro cx
      clear cx
      repeat (first | go_big_quiet_skip | (go_big_quiet_want; go_big_quiet_op; first | go_big_quiet_on | (refine ⟨_, fun _ => rfl, ?_⟩; go_big_quiet_on) | go_big_quiet_call (first | (go_at_call 79; exact calls_sub (N2.out _)) | (go_at_call 83; exact calls_sub (M2.out _)))))
      refine wpQuiet_nil ?_
      rintro _ ⟨y, rfl⟩
      have Y : Hid (Below w.heap.size w y.w) := bl_tr AB.out y.h
      clear c7 c8 c9 N2 M2 zl ev
      go_wp2
      go_ret
      exact ⟨by first | rfl | simp, Y.out⟩
  · rw [if_neg q]
    have p : (cd == 1) = false := by simp [q]
    clear q M1
    have ev := eqZv vk vb vs
    generalize (decide (vk = 0) && decide (vb = 0) && emB vs) = r at *
    go_enter Tryz.func67, Tryz.ntmps67
    go_wp2
    go_ret
    exact ⟨rfl, by go_grown⟩
end Go.Proofs.YtkickdmomompjaaGreat
namespace Go.Proofs.YtkickdmomompjaaGreat
set_option linter.unusedVariables false
open Go.RowKit
theorem ls_bad {f : FlR} {k : Nat} {s : LpR} (h : f.ls[k]? = some s) (hb : lpB f.os.length s = false) : lsB f = false := by
  unfold lsB
  rw [List.all_eq_false]
  exact ⟨s, List.mem_of_getElem? h, by rw [hb]; simp⟩
set_option maxRecDepth 20000 in
set_option maxHeartbeats 4000000 in
theorem mayLoop_of (f : FlR) (x1 x2 : Option Addr) (p1 p2 : Nat) (w : World) {S : Nat → Prop} (hS : ∀ b, S b → b < w.heap.size) (ha : RwF 3 (Is lpC) S w x2 f.ls) : Calls Tryz.prog 37 #[FlV f x1 x2 p1 p2] w fun e w' => e = .returned (.bool (lsB f)) ∧ Below w.heap.size w w' := by
  have HA : Hid (RwF 3 (Is lpC) S w x2 f.ls) := ha
  have HS : Hid (∀ b, S b → b < w.heap.size) := hS
  clear ha hS
  generalize hv : lsB f = VV
  have HV : Hid (lsB f = VV) := hv
  clear hv
  obtain ⟨AW, eW⟩ : ∃ AW, AW = w.alloc (.cells #[.string f.nm, .int .i64 f.wh, .int .i64 f.ce, .int .i64 f.ba, .int .i64 f.rg, .int .i64 f.sl, .slice x1 f.os.length p1, .slice x2 f.ls.length p2] 66 (0, 0)) := ⟨_, rfl⟩
  have AX : Hid (AW.heap[w.heap.size]? = some (.cells #[.string f.nm, .int .i64 f.wh, .int .i64 f.ce, .int .i64 f.ba, .int .i64 f.rg, .int .i64 f.sl, .slice x1 f.os.length p1, .slice x2 f.ls.length p2] 66 (0, 0))) := by rw [eW]; exact heap_alloc_last _ _
  have AB : Hid (Below w.heap.size w AW) := by rw [eW]; exact (Below.refl _ _).alloc (Nat.le_refl _) _
  go_enter Tryz.func37, Tryz.ntmps37
  go_wp2_with fail
  rw [← eW]
  clear eW
  go_loopw [8] (fun i wr => ∃ k : Nat, k ≤ f.ls.length ∧ i = .int .i64 k ∧ Below w.heap.size w wr ∧ wr.heap[w.heap.size]? = some (.cells #[.string f.nm, .int .i64 f.wh, .int .i64 f.ce, .int .i64 f.ba, .int .i64 f.rg, .int .i64 f.sl, .slice x1 f.os.length p1, .slice x2 f.ls.length p2] 66 (0, 0)) ∧ ∀ (j : Nat) s, j < k → f.ls[j]? = some s → lpB f.os.length s = true) (fun i _ => f.ls.length - (intOf i).toNat)
  case atStart => exact ⟨0, Nat.zero_le _, rfl, AB.out, AX.out, fun j s hj => absurd hj (Nat.not_lt_zero _)⟩
  case round =>
    obtain ⟨k, hk, rfl, hbw, hx, hall⟩ := hrel
    have HW : Hid (Below w.heap.size w wr) := hbw
    have HX : Hid (wr.heap[w.heap.size]? = some (.cells #[.string f.nm, .int .i64 f.wh, .int .i64 f.ce, .int .i64 f.ba, .int .i64 f.rg, .int .i64 f.sl, .slice x1 f.os.length p1, .slice x2 f.ls.length p2] 66 (0, 0))) := hx
    have AL : Hid _ := hall
    clear hall AX AB
    by_cases hlt : k < f.ls.length
    · obtain ⟨a, rfl⟩ := HA.out.some (by omega)
      obtain ⟨s, sv, se, _, rfl, sk⟩ := (HA.out.fr (w' := wr) (fun q hq => hbw.cell (HS.out _ hq))).el k hlt
      have e0 := sk.c0
      have e1 := sk.cp 0 _ rfl
      have e2 := sk.cp 1 _ rfl
      have ES : Hid (f.ls[k]? = some s) := se
      have LT : Hid (k < f.ls.length) := hlt
      have kl : (k : Int) < f.ls.length := by omega
      clear hbw se hlt sk
      have za := block_lt_of_cell e0
      have GA : Hid (∀ X : Obj, Below wr.heap.size wr (wr.alloc X)) := fun X => (Below.refl _ _).alloc (Nat.le_refl _) _
      have k6 : ∀ X : Obj, (wr.alloc X).cell? ⟨w.heap.size, 6, none⟩ = some (.slice x1 f.os.length p1) := fun X => ((GA.out X).cell (p := ⟨w.heap.size, 6, none⟩) (blk_in hx)).trans (by simp [World.cell?, hx])
      clear hx
      obtain ⟨hd, en, tm⟩ := s
      simp only at e0 e1 e2
      by_cases c1 : 0 ≤ hd
      case neg =>
        have ans : lsB f = false := ls_bad ES.out (by unfold lpB; simp [c1])
        have AN : Hid _ := ans
        clear ans
        have ev : VV = false := HV.out.symm.trans AN.out
        subst ev
        go_wp2
        go_ret
        exact ⟨rfl, HW.out.trans ((GA.out _).mono HW.out.size)⟩
      by_cases c2 : hd ≤ en
      case neg =>
        have ans : lsB f = false := ls_bad ES.out (by unfold lpB; simp [c2])
        have AN : Hid _ := ans
        clear ans
        have ev : VV = false := HV.out.symm.trans AN.out
        subst ev
        go_wp2
        go_ret
        exact ⟨rfl, HW.out.trans ((GA.out _).mono HW.out.size)⟩
      by_cases c3 : en ≤ f.os.length
      case neg =>
        have ans : lsB f = false := ls_bad ES.out (by unfold lpB; simp [c3])
        have AN : Hid _ := ans
        clear ans
        have ev : VV = false := HV.out.symm.trans AN.out
        subst ev
        go_wp2
        go_ret
        exact ⟨rfl, HW.out.trans ((GA.out _).mono HW.out.size)⟩
      have H1 : Hid (∀ W, Calls Tryz.prog 63 #[.agg #[.int .i64 0, .int .i64 65536], .int .i64 tm] W fun e w' => e = .returned (.bool (inB 0 65536 tm)) ∧ Below W.heap.size W w') := fun W => has_of _ _ _ W
      have LP : Hid (lpB f.os.length ⟨hd, en, tm⟩ = inB 0 65536 tm) := by show lpB _ _ = _; unfold lpB; simp [c1, c2, c3]
      generalize inB 0 65536 tm = r at *
      go_wp2_with fail
      refine (H1.out _).mono ?_
      rintro e w5 ⟨rfl, hb⟩
      have B5 : Hid (Below wr.heap.size wr w5) := (GA.out _).trans (hb.mono (GA.out _).size)
      clear hb e0 e1 e2 za k6
      cases r
      · have ev : VV = false := HV.out.symm.trans (ls_bad ES.out LP.out)
        subst ev
        go_wp2
        go_ret
        exact ⟨rfl, HW.out.trans (B5.out.mono HW.out.size)⟩
      · have ew : wrap64 ((k : Int) + 1) = (k : Int) + 1 := by have := HA.out.1; have := LT.out; unfold wrap64; omega
        go_wp2
        rw [ew]
        exact ⟨⟨k + 1, Nat.succ_le_of_lt LT.out, rfl, HW.out.trans (B5.out.mono HW.out.size), (B5.out.block _ (blk_in HX.out)).trans HX.out, fun j t hj ht => by
          rcases Nat.lt_succ_iff_lt_or_eq.1 hj with h | rfl
          · exact AL.out j t h ht
          · rw [ES.out] at ht; cases ht; exact LP.out⟩, msr LT.out⟩
    · have kl : ¬ (k : Int) < f.ls.length := by omega
      have ev : VV = true := HV.out.symm.trans (by
        unfold lsB
        rw [List.all_eq_true]
        intro t ht
        obtain ⟨j, hj⟩ := List.mem_iff_getElem?.1 ht
        exact AL.out j t (by have := (List.getElem?_eq_some_iff.1 hj).1; omega) hj)
      subst ev
      clear hbw hlt hx
      go_wp2
      go_ret
      exact ⟨rfl, HW.out⟩
end Go.Proofs.YtkickdmomompjaaGreat
namespace Go.Proofs.YtkickdmomompjaaGreat
set_option linter.unusedVariables false
open Go.RowKit
theorem infRlF : ∃ i z, Tryz.prog.info? 66 = some i ∧ i.zero = some z ∧ i.size = 8 ∧ i.bytes = 104 ∧ z.cells.size = 8 := by
  obtain ⟨i, hi, hz⟩ := Option.map_eq_some_iff.1 (show (Tryz.prog.info? 66).map (fun i => (i.zero.map (·.cells.size), i.size, i.bytes)) = some (some 8, 8, 104) by kernel_rfl)
  simp only [Prod.mk.injEq] at hz
  obtain ⟨z, h1, h2⟩ := Option.map_eq_some_iff.1 hz.1
  exact ⟨i, z, hi, h1, hz.2.1, hz.2.2, h2⟩
set_option maxRecDepth 20000 in
set_option maxHeartbeats 8000000 in
theorem RlF (g kb o c : Nat) (bs : List Nat) (rd : RS → FlR × RS)
    (hE : ∀ (s : RS) (W : World), Rd g kb o c bs s W → Calls Tryz.prog 73 #[.pointer (some ⟨g, 0, none⟩)] W fun e w' => (∃ x1 c1 x2 c2, e = .returned (.agg #[.string (rd s).1.nm, .int .i64 (rd s).1.wh, .int .i64 (rd s).1.ce, .int .i64 (rd s).1.ba, .int .i64 (rd s).1.rg, .int .i64 (rd s).1.sl, .slice x1 (rd s).1.os.length c1, .slice x2 (rd s).1.ls.length c2]) ∧ FlQ (Fresh W.heap.size w'.heap.size) w' (rd s).1 x1 x2) ∧ Rd g kb o c bs (rd s).2 w' ∧ W.grownBy w' (some g))
    (s : RS) (w : World) (h : Rd g kb o c bs s w) :
    Calls Tryz.prog 72 #[.pointer (some ⟨g, 0, none⟩), .func (.func 73) #[.pointer (some ⟨g, 0, none⟩)] #[]] w fun e w' => (∃ y k, e = .returned (.slice y (rdL rd bs s).1.length k) ∧ RwF 8 (FlP (Fresh w.heap.size w'.heap.size) w') (Fresh w.heap.size w'.heap.size) w' y (rdL rd bs s).1) ∧ Rd g kb o c bs (rdL rd bs s).2 w' ∧ w.grownBy w' (some g) := by
  have CT : Hid (Calls Tryz.prog 84 #[.pointer (some ⟨g, 0, none⟩)] w fun e w' => e = .returned (.int .i64 (rdC bs s).1) ∧ Rd g kb o c bs (rdC bs s).2 w' ∧ w.grownBy w' (some g)) := cntM g kb o c bs s w h
  have OK : Hid ((rdC bs s).2.y = 0 → 0 ≤ (rdC bs s).1 ∧ (rdC bs s).1.toNat ≤ 4194304) := fun q => by have := rdC_ok q; have := h.n4; omega
  have GL : Hid (g < w.heap.size) := h.lt
  have HE : Hid _ := hE
  show Calls _ _ _ _ fun e w' => (∃ y k, e = .returned (.slice y (rdKL rd (rdC bs s).1.toNat (rdC bs s).2).length k) ∧ RwF 8 (FlP (Fresh w.heap.size w'.heap.size) w') (Fresh w.heap.size w'.heap.size) w' y (rdKL rd (rdC bs s).1.toNat (rdC bs s).2)) ∧ Rd g kb o c bs (rdKS rd (rdC bs s).1.toNat (rdC bs s).2) w' ∧ w.grownBy w' (some g)
  generalize (rdC bs s).1 = N at *
  generalize (rdC bs s).2 = s1 at *
  clear h hE
  go_enter Tryz.func72, Tryz.ntmps72
  go_upto_region 2 with fail
  go_wp2_with (go_at_call 84; refine (CT.out).mono ?_)
  first | (rintro e w1 ⟨he, h1, g1⟩; have he' := he) | (rintro e w1 he h1 g1)
  subst he
  have R1 : Hid (Rd g kb o c bs s1 w1) := h1
  have G1 : Hid (w.grownBy w1 (some g)) := g1
  have GB : Hid (g < w1.heap.size) := h1.lt
  clear h1 g1
  go_wp2
  go_loopw [5, 8] (fun v i wr => ∃ (k : Nat) (t : RS), i = .int .i64 k ∧ LsI rd N.toNat s1 k t ∧ MkI 66 8 FlP w1.heap.size (rdKL rd N.toNat s1) k v wr ∧ Rd g kb o c bs t wr ∧ w1.grownBy wr (some g)) (fun _ i _ => N.toNat - (intOf i).toNat)
  case atStart => exact ⟨0, s1, rfl, LsI.zero, MkI.zero _ _ _ _ _ _, R1.out, gb_refl _ _⟩
  case round =>
    obtain ⟨k, t, rfl, hL, hM, hR, hG⟩ := hrel
    have LI : Hid (LsI rd N.toNat s1 k t) := hL
    have MI : Hid (MkI 66 8 FlP w1.heap.size (rdKL rd N.toNat s1) k u5 wr) := hM
    have RI : Hid (Rd g kb o c bs t wr) := hR
    have GI : Hid (w1.grownBy wr (some g)) := hG
    have fin : Hid (k = N.toNat ∨ t.y ≠ 0 → (∃ y c2, u5 = .slice y (rdKL rd N.toNat s1).length c2 ∧ RwF 8 (FlP (Fresh w.heap.size wr.heap.size) wr) (Fresh w.heap.size wr.heap.size) wr y (rdKL rd N.toNat s1)) ∧ Rd g kb o c bs (rdKS rd N.toNat s1) wr ∧ w.grownBy wr (some g)) := fun q => by
      obtain ⟨e1, e2⟩ := hL.last q
      rw [e2]
      have fe : few (rdKL rd N.toNat s1).length := by
        have := rdKL_len rd N.toNat s1
        by_cases z : s1.y = 0
        · have := OK.out z; show _ < _; omega
        · rw [rdKL_bad rd _ z]; show 0 < _; omega
      have hM2 := hM
      rw [← e1] at hM2
      obtain ⟨y, c2, ey, hy⟩ := hM2.done keptF fe
      exact ⟨⟨y, c2, ey, (hy.subK keptF (up_sub' G1.out.size (Nat.le_refl _)))⟩, hR, gb_trans G1.out hG⟩
    clear hL hM hR hG
    by_cases hlt : (k : Int) < N
    · by_cases hy : t.y = 0
      · have HB : Hid (Calls Tryz.prog 76 #[.pointer (some ⟨g, 0, none⟩)] wr fun e w' => e = .returned (.bool false) ∧ w' = wr) := by
          have q := failedX g _ _ _ _ _ _ wr RI.out.at_
          rw [hy] at q
          exact q
        have NX : Hid (LsI rd N.toNat s1 (k + 1) (rd t).2) := LI.out.next (by omega) hy
        have GE : Hid ((rdKL rd N.toNat s1)[k]? = some (rd t).1) := LI.out.get (by omega) hy
        have LE : Hid (k + 1 ≤ 4194304) := by have := OK.out (LI.out.ok hy); show _ ≤ _; omega
        have LT : Hid ((k : Int) < N) := hlt
        clear hy fin LI
        go_wp2_with (go_at_call 76; refine (HB.out).mono ?_)
        try (first | (rintro e w2 ⟨he, hw⟩; have he' := he; subst he; rw [hw]; clear hw w2) | (rintro e w2 he hw; subst he; rw [hw]; clear hw w2))
        go_wp2_with fail
        refine (HE.out t wr RI.out).mono ?_
        first | (rintro e w5 ⟨⟨z1, d1, z2, d2, he, fq⟩, h5, g5⟩; have he' := he) | (rintro e w5 z1 d1 z2 d2 he fq h5 g5)
        subst he
        have R5 : Hid (Rd g kb o c bs (rd t).2 w5) := h5
        have G5 : Hid (wr.grownBy w5 (some g)) := g5
        have F5 : Hid (FlQ (Fresh wr.heap.size w5.heap.size) w5 (rd t).1 z1 z2) := fq
        clear fq
        clear h5 g5 RI HE HB
        generalize (rd t).1 = ee at *
        generalize (rd t).2 = t2 at *
        obtain ⟨vss, ehs, hvn, how, hev⟩ := MI.out
        have EHS : Hid (vss.length = k) := ehs
        have HVN : Hid (∀ v ∈ vss, v.length = 8) := hvn
        have OW : Hid (wr.ownsRow w1.heap.size 66 8 u5 k vss.flatten) := how
        have EV : Hid _ := hev
        clear ehs hvn how hev MI
        have ew : wrap64 ((k : Int) + 1) = (k : Int) + 1 := by have := LE.out; unfold wrap64; omega
        have OW5 : Hid (∀ X : Obj, (w5.alloc X).ownsRow w1.heap.size 66 8 u5 k vss.flatten) := fun X => (OW.out.kept G5.out (ob_ne OW.out.lt GB.out)).alloc X
        have NW : Hid (∀ j u, (flC ee (.slice z1 ee.os.length d1) (.slice z2 ee.ls.length d2))[j]? = some u → (w5.alloc (.cells (flC ee (.slice z1 ee.os.length d1) (.slice z2 ee.ls.length d2)).toArray 66)).cell? ((⟨w5.heap.size, 0, none⟩ : Addr).add j) = some u) := fun j u h => mk_cells w5 _ _ j u h
        have BZ : Hid (∀ X : Obj, w1.heap.size ≤ (w5.alloc X).heap.size) := fun X => by have := GI.out.size; have := G5.out.size; simp; omega
        have I : Hid _ := infRlF
        go_wp2_with (at_builtin; obtain ⟨i, z, hi, hz, hs', hy, hzc⟩ := I.out; refine wpList_append_own_at _ rfl _ _ 23 rfl w1.heap.size 66 i z 8 104 Tryz.underlying23 hi hz hs' hy hzc (by decide) u5 k vss.flatten rfl (OW5.out _) ⟨w5.heap.size, 0, none⟩ 1 1 (flC ee (.slice z1 ee.os.length d1) (.slice z2 ee.ls.length d2)) rfl rfl NW.out (by intro u hu; simp at hu; rcases hu with h | h | h | h | h | h | h | h <;> subst h <;> rfl) (by have := LE.out; simp [maxLen]; omega) (by have := LE.out; omega) (BZ.out _) ?_; intro v' w7 q1 q2 q3 q4; have Q1 : Hid _ := q1; have Q2 : Hid _ := q2; have Q4 : Hid _ := q4; clear q1 q2 q3 q4 hi hz hs' hy hzc)
        rw [ew]
        have B5 : wr.grownBy (w5.alloc (.cells (flC ee (.slice z1 ee.os.length d1) (.slice z2 ee.ls.length d2)).toArray 66)) (some g) := gb_trans G5.out (gb_alloc _ _ _)
        have hob : ∀ i, u5.ownBlock = some i → w1.heap.size ≤ i := fun i hi => (OW.out.lt i hi).1
        refine ⟨⟨k + 1, t2, rfl, NX.out, MkI.stepG keptF GB.out EHS.out HVN.out EV.out OW.out.lt _ _ GE.out rfl GI.out.size B5 ⟨z1, d1, z2, d2, rfl, (F5.out.fr (fun q hq => World.cell?_of_block ((gb_alloc _ _ none).block _ hq.2 (by simp)))).sub (up_sub' (Nat.le_refl _) (gb_alloc _ _ none).size)⟩ Q2.out Q1.out Q4.out, ?_, ?_⟩, ?_⟩
        · exact (R5.out.al _).grown Q2.out (fun q => by have := hob _ q; have := GB.out; omega) (fun q => by have := hob _ q; have := R1.out.kl; omega)
        · exact gb_own (gb_trans GI.out B5) Q2.out hob
        · have := LT.out
          show N.toNat - ((k : Int) + 1).toNat < N.toNat - (k : Int).toNat
          omega
      · have HB : Hid (Calls Tryz.prog 76 #[.pointer (some ⟨g, 0, none⟩)] wr fun e w' => e = .returned (.bool true) ∧ w' = wr) := by
          have q := failedX g _ _ _ _ _ _ wr RI.out.at_
          rw [show (t.y != 0) = true by simp [hy]] at q
          exact q
        obtain ⟨⟨y, c2, ev, hy2⟩, hr2, hg2⟩ := fin.out (Or.inr hy)
        subst ev
        have Y2 : Hid _ := hy2
        have R2 : Hid _ := hr2
        have G2 : Hid _ := hg2
        clear hy hy2 hr2 hg2 fin LI MI RI GI
        go_wp2_with (go_at_call 76; refine (HB.out).mono ?_)
        try (first | (rintro e w2 ⟨he, hw⟩; have he' := he; subst he; rw [hw]; clear hw w2) | (rintro e w2 he hw; subst he; rw [hw]; clear hw w2))
        go_wp2
        go_ret
        first | exact ⟨⟨y, ⟨c2, rfl⟩, Y2.out⟩, R2.out, G2.out⟩ | exact ⟨⟨y, c2, rfl, Y2.out⟩, R2.out, G2.out⟩
    · obtain ⟨⟨y, c2, ev, hy2⟩, hr2, hg2⟩ := fin.out (Or.inl (by have := LI.out.1; omega))
      subst ev
      have Y2 : Hid _ := hy2
      have R2 : Hid _ := hr2
      have G2 : Hid _ := hg2
      clear hy2 hr2 hg2 fin LI MI RI GI
      go_wp2
      go_ret
      first | exact ⟨⟨y, ⟨c2, rfl⟩, Y2.out⟩, R2.out, G2.out⟩ | exact ⟨⟨y, c2, rfl, Y2.out⟩, R2.out, G2.out⟩
theorem infRlJ : ∃ i z, Tryz.prog.info? 61 = some i ∧ i.zero = some z ∧ i.size = 7 ∧ i.bytes = 96 ∧ z.cells.size = 7 := by
  obtain ⟨i, hi, hz⟩ := Option.map_eq_some_iff.1 (show (Tryz.prog.info? 61).map (fun i => (i.zero.map (·.cells.size), i.size, i.bytes)) = some (some 7, 7, 96) by kernel_rfl)
  simp only [Prod.mk.injEq] at hz
  obtain ⟨z, h1, h2⟩ := Option.map_eq_some_iff.1 hz.1
  exact ⟨i, z, hi, h1, hz.2.1, hz.2.2, h2⟩
set_option maxRecDepth 20000 in
set_option maxHeartbeats 8000000 in
theorem RlJ (g kb o c : Nat) (bs : List Nat) (rd : RS → JbR × RS)
    (hE : ∀ (s : RS) (W : World), Rd g kb o c bs s W → Calls Tryz.prog 75 #[.pointer (some ⟨g, 0, none⟩)] W fun e w' => (∃ x1 c1 x2 c2, e = .returned (.agg #[.string (rd s).1.nm, .int .i64 (rd s).1.iv, .int .i64 (rd s).1.sg, .int .i64 (rd s).1.pr, .slice x1 (rd s).1.cs.length c1, .slice x2 (rd s).1.bs.length c2, .int .i64 (rd s).1.bd]) ∧ JbQ (Fresh W.heap.size w'.heap.size) w' (rd s).1 x1 x2) ∧ Rd g kb o c bs (rd s).2 w' ∧ W.grownBy w' (some g))
    (s : RS) (w : World) (h : Rd g kb o c bs s w) :
    Calls Tryz.prog 74 #[.pointer (some ⟨g, 0, none⟩), .func (.func 75) #[.pointer (some ⟨g, 0, none⟩)] #[]] w fun e w' => (∃ y k, e = .returned (.slice y (rdL rd bs s).1.length k) ∧ RwF 7 (JbP (Fresh w.heap.size w'.heap.size) w') (Fresh w.heap.size w'.heap.size) w' y (rdL rd bs s).1) ∧ Rd g kb o c bs (rdL rd bs s).2 w' ∧ w.grownBy w' (some g) := by
  have CT : Hid (Calls Tryz.prog 84 #[.pointer (some ⟨g, 0, none⟩)] w fun e w' => e = .returned (.int .i64 (rdC bs s).1) ∧ Rd g kb o c bs (rdC bs s).2 w' ∧ w.grownBy w' (some g)) := cntM g kb o c bs s w h
  have OK : Hid ((rdC bs s).2.y = 0 → 0 ≤ (rdC bs s).1 ∧ (rdC bs s).1.toNat ≤ 4194304) := fun q => by have := rdC_ok q; have := h.n4; omega
  have GL : Hid (g < w.heap.size) := h.lt
  have HE : Hid _ := hE
  show Calls _ _ _ _ fun e w' => (∃ y k, e = .returned (.slice y (rdKL rd (rdC bs s).1.toNat (rdC bs s).2).length k) ∧ RwF 7 (JbP (Fresh w.heap.size w'.heap.size) w') (Fresh w.heap.size w'.heap.size) w' y (rdKL rd (rdC bs s).1.toNat (rdC bs s).2)) ∧ Rd g kb o c bs (rdKS rd (rdC bs s).1.toNat (rdC bs s).2) w' ∧ w.grownBy w' (some g)
  generalize (rdC bs s).1 = N at *
  generalize (rdC bs s).2 = s1 at *
  clear h hE
  go_enter Tryz.func74, Tryz.ntmps74
  go_upto_region 2 with fail
  go_wp2_with (go_at_call 84; refine (CT.out).mono ?_)
  first | (rintro e w1 ⟨he, h1, g1⟩; have he' := he) | (rintro e w1 he h1 g1)
  subst he
  have R1 : Hid (Rd g kb o c bs s1 w1) := h1
  have G1 : Hid (w.grownBy w1 (some g)) := g1
  have GB : Hid (g < w1.heap.size) := h1.lt
  clear h1 g1
  go_wp2
  go_loopw [5, 8] (fun v i wr => ∃ (k : Nat) (t : RS), i = .int .i64 k ∧ LsI rd N.toNat s1 k t ∧ MkI 61 7 JbP w1.heap.size (rdKL rd N.toNat s1) k v wr ∧ Rd g kb o c bs t wr ∧ w1.grownBy wr (some g)) (fun _ i _ => N.toNat - (intOf i).toNat)
  case atStart => exact ⟨0, s1, rfl, LsI.zero, MkI.zero _ _ _ _ _ _, R1.out, gb_refl _ _⟩
  case round =>
    obtain ⟨k, t, rfl, hL, hM, hR, hG⟩ := hrel
    have LI : Hid (LsI rd N.toNat s1 k t) := hL
    have MI : Hid (MkI 61 7 JbP w1.heap.size (rdKL rd N.toNat s1) k u5 wr) := hM
    have RI : Hid (Rd g kb o c bs t wr) := hR
    have GI : Hid (w1.grownBy wr (some g)) := hG
    have fin : Hid (k = N.toNat ∨ t.y ≠ 0 → (∃ y c2, u5 = .slice y (rdKL rd N.toNat s1).length c2 ∧ RwF 7 (JbP (Fresh w.heap.size wr.heap.size) wr) (Fresh w.heap.size wr.heap.size) wr y (rdKL rd N.toNat s1)) ∧ Rd g kb o c bs (rdKS rd N.toNat s1) wr ∧ w.grownBy wr (some g)) := fun q => by
      obtain ⟨e1, e2⟩ := hL.last q
      rw [e2]
      have fe : few (rdKL rd N.toNat s1).length := by
        have := rdKL_len rd N.toNat s1
        by_cases z : s1.y = 0
        · have := OK.out z; show _ < _; omega
        · rw [rdKL_bad rd _ z]; show 0 < _; omega
      have hM2 := hM
      rw [← e1] at hM2
      obtain ⟨y, c2, ey, hy⟩ := hM2.done keptJ fe
      exact ⟨⟨y, c2, ey, (hy.subK keptJ (up_sub' G1.out.size (Nat.le_refl _)))⟩, hR, gb_trans G1.out hG⟩
    clear hL hM hR hG
    by_cases hlt : (k : Int) < N
    · by_cases hy : t.y = 0
      · have HB : Hid (Calls Tryz.prog 76 #[.pointer (some ⟨g, 0, none⟩)] wr fun e w' => e = .returned (.bool false) ∧ w' = wr) := by
          have q := failedX g _ _ _ _ _ _ wr RI.out.at_
          rw [hy] at q
          exact q
        have NX : Hid (LsI rd N.toNat s1 (k + 1) (rd t).2) := LI.out.next (by omega) hy
        have GE : Hid ((rdKL rd N.toNat s1)[k]? = some (rd t).1) := LI.out.get (by omega) hy
        have LE : Hid (k + 1 ≤ 4194304) := by have := OK.out (LI.out.ok hy); show _ ≤ _; omega
        have LT : Hid ((k : Int) < N) := hlt
        clear hy fin LI
        go_wp2_with (go_at_call 76; refine (HB.out).mono ?_)
        try (first | (rintro e w2 ⟨he, hw⟩; have he' := he; subst he; rw [hw]; clear hw w2) | (rintro e w2 he hw; subst he; rw [hw]; clear hw w2))
        go_wp2_with fail
        refine (HE.out t wr RI.out).mono ?_
        first | (rintro e w5 ⟨⟨z1, d1, z2, d2, he, fq⟩, h5, g5⟩; have he' := he) | (rintro e w5 z1 d1 z2 d2 he fq h5 g5)
        subst he
        have R5 : Hid (Rd g kb o c bs (rd t).2 w5) := h5
        have G5 : Hid (wr.grownBy w5 (some g)) := g5
        have F5 : Hid (JbQ (Fresh wr.heap.size w5.heap.size) w5 (rd t).1 z1 z2) := fq
        clear fq
        clear h5 g5 RI HE HB
        generalize (rd t).1 = ee at *
        generalize (rd t).2 = t2 at *
        obtain ⟨vss, ehs, hvn, how, hev⟩ := MI.out
        have EHS : Hid (vss.length = k) := ehs
        have HVN : Hid (∀ v ∈ vss, v.length = 7) := hvn
        have OW : Hid (wr.ownsRow w1.heap.size 61 7 u5 k vss.flatten) := how
        have EV : Hid _ := hev
        clear ehs hvn how hev MI
        have ew : wrap64 ((k : Int) + 1) = (k : Int) + 1 := by have := LE.out; unfold wrap64; omega
        have OW5 : Hid (∀ X : Obj, (w5.alloc X).ownsRow w1.heap.size 61 7 u5 k vss.flatten) := fun X => (OW.out.kept G5.out (ob_ne OW.out.lt GB.out)).alloc X
        have NW : Hid (∀ j u, (jbC ee (.slice z1 ee.cs.length d1) (.slice z2 ee.bs.length d2))[j]? = some u → (w5.alloc (.cells (jbC ee (.slice z1 ee.cs.length d1) (.slice z2 ee.bs.length d2)).toArray 61)).cell? ((⟨w5.heap.size, 0, none⟩ : Addr).add j) = some u) := fun j u h => mk_cells w5 _ _ j u h
        have BZ : Hid (∀ X : Obj, w1.heap.size ≤ (w5.alloc X).heap.size) := fun X => by have := GI.out.size; have := G5.out.size; simp; omega
        have I : Hid _ := infRlJ
        go_wp2_with (at_builtin; obtain ⟨i, z, hi, hz, hs', hy, hzc⟩ := I.out; refine wpList_append_own_at _ rfl _ _ 24 rfl w1.heap.size 61 i z 7 96 Tryz.underlying24 hi hz hs' hy hzc (by decide) u5 k vss.flatten rfl (OW5.out _) ⟨w5.heap.size, 0, none⟩ 1 1 (jbC ee (.slice z1 ee.cs.length d1) (.slice z2 ee.bs.length d2)) rfl rfl NW.out (by intro u hu; simp at hu; rcases hu with h | h | h | h | h | h | h <;> subst h <;> rfl) (by have := LE.out; simp [maxLen]; omega) (by have := LE.out; omega) (BZ.out _) ?_; intro v' w7 q1 q2 q3 q4; have Q1 : Hid _ := q1; have Q2 : Hid _ := q2; have Q4 : Hid _ := q4; clear q1 q2 q3 q4 hi hz hs' hy hzc)
        rw [ew]
        have B5 : wr.grownBy (w5.alloc (.cells (jbC ee (.slice z1 ee.cs.length d1) (.slice z2 ee.bs.length d2)).toArray 61)) (some g) := gb_trans G5.out (gb_alloc _ _ _)
        have hob : ∀ i, u5.ownBlock = some i → w1.heap.size ≤ i := fun i hi => (OW.out.lt i hi).1
        refine ⟨⟨k + 1, t2, rfl, NX.out, MkI.stepG keptJ GB.out EHS.out HVN.out EV.out OW.out.lt _ _ GE.out rfl GI.out.size B5 ⟨z1, d1, z2, d2, rfl, (F5.out.fr (fun q hq => World.cell?_of_block ((gb_alloc _ _ none).block _ hq.2 (by simp)))).sub (up_sub' (Nat.le_refl _) (gb_alloc _ _ none).size)⟩ Q2.out Q1.out Q4.out, ?_, ?_⟩, ?_⟩
        · exact (R5.out.al _).grown Q2.out (fun q => by have := hob _ q; have := GB.out; omega) (fun q => by have := hob _ q; have := R1.out.kl; omega)
        · exact gb_own (gb_trans GI.out B5) Q2.out hob
        · have := LT.out
          show N.toNat - ((k : Int) + 1).toNat < N.toNat - (k : Int).toNat
          omega
      · have HB : Hid (Calls Tryz.prog 76 #[.pointer (some ⟨g, 0, none⟩)] wr fun e w' => e = .returned (.bool true) ∧ w' = wr) := by
          have q := failedX g _ _ _ _ _ _ wr RI.out.at_
          rw [show (t.y != 0) = true by simp [hy]] at q
          exact q
        obtain ⟨⟨y, c2, ev, hy2⟩, hr2, hg2⟩ := fin.out (Or.inr hy)
        subst ev
        have Y2 : Hid _ := hy2
        have R2 : Hid _ := hr2
        have G2 : Hid _ := hg2
        clear hy hy2 hr2 hg2 fin LI MI RI GI
        go_wp2_with (go_at_call 76; refine (HB.out).mono ?_)
        try (first | (rintro e w2 ⟨he, hw⟩; have he' := he; subst he; rw [hw]; clear hw w2) | (rintro e w2 he hw; subst he; rw [hw]; clear hw w2))
        go_wp2
        go_ret
        first | exact ⟨⟨y, ⟨c2, rfl⟩, Y2.out⟩, R2.out, G2.out⟩ | exact ⟨⟨y, c2, rfl, Y2.out⟩, R2.out, G2.out⟩
    · obtain ⟨⟨y, c2, ev, hy2⟩, hr2, hg2⟩ := fin.out (Or.inl (by have := LI.out.1; omega))
      subst ev
      have Y2 : Hid _ := hy2
      have R2 : Hid _ := hr2
      have G2 : Hid _ := hg2
      clear hy2 hr2 hg2 fin LI MI RI GI
      go_wp2
      go_ret
      first | exact ⟨⟨y, ⟨c2, rfl⟩, Y2.out⟩, R2.out, G2.out⟩ | exact ⟨⟨y, c2, rfl, Y2.out⟩, R2.out, G2.out⟩
end Go.Proofs.YtkickdmomompjaaGreat
