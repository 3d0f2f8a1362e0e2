/- The document's image: may an instruction be; no statement of the seat is proved here. -/
import Derived.Test.YtdcjngakmkgbmaaGreatKoB5
import Derived.Test.YtdcjngakmkgbmaaGreatCkIK
namespace Go.Proofs.YtdcjngakmkgbmaaGreat
set_option linter.unusedVariables false
open Go.RowKit
set_option maxRecDepth 20000 in
set_option maxHeartbeats 8000000 in
theorem instrR_no (o : OpR) (f : FlR) (x1 x2 : Option Addr) (p1 p2 : Nat) (cs : Int) (h : inB 1 23 o.cd = false) (w : World) : Calls Tryz.prog 40 #[OpV o, FlV f x1 x2 p1 p2, .int .i64 cs] w fun e w' => e = .returned (.bool false) ∧ Below w.heap.size w w' := by
  unfold inB at h
  simp only [Bool.and_eq_false_iff, decide_eq_false_iff_not] at h
  by_cases a : o.cd < 1
  · go_enter Tryz.func40, Tryz.ntmps40
    go_wp2
    go_ret
    exact ⟨rfl, by go_grown⟩
  · have b : 23 < o.cd := by omega
    clear h
    go_enter Tryz.func40, Tryz.ntmps40
    go_wp2
    go_ret
    exact ⟨rfl, by go_grown⟩
set_option maxRecDepth 20000 in
set_option maxHeartbeats 8000000 in
theorem instrR_yes (o : OpR) (f : FlR) (x1 x2 : Option Addr) (p1 p2 : Nat) (cs : Int) (a1 a2 b1 b2 c1 c2 d1 d2 bk : Int) (w : World) (hc : 1 ≤ o.cd ∧ o.cd ≤ 23) (ho : OpOk o) (hk : bk = bdK o.cd)
    (hF : Hid (∀ W, Calls Tryz.prog 84 #[.int .i64 o.cd, FlV f x1 x2 p1 p2, .int .i64 cs] W fun e w' => e = .returned (.agg #[.int .i64 a2, .int .i64 b2, .int .i64 c2, .int .i64 d2, .int .i64 a1, .int .i64 b1, .int .i64 c1, .int .i64 d1, .int .i64 bk]) ∧ Below W.heap.size W w')) :
    Calls Tryz.prog 40 #[OpV o, FlV f x1 x2 p1 p2, .int .i64 cs] w fun e w' => e = .returned (.bool (inB a1 a2 o.a && inB b1 b2 o.b && inB c1 c2 o.c && inB d1 d2 o.d && rcB o && hdB o)) ∧ Below w.heap.size w w' := by
  have B1 : Hid (∀ W, Calls Tryz.prog 85 #[OpV o, .int .i64 bk] W fun e w' => e = .returned (.bool (rcB o)) ∧ Below W.heap.size W w') := fun W => by rw [rc_bn, hk]; exact boundedR_of o _ (bdK_in _) ho W
  have g8 := wf_u8 ho.2.2.2.2.2.2.2.1
  have g9 := wf_u64 ho.2.2.2.2.2.2.2.2.1
  have g10 := sh_max ho.2.2.2.2.2.2.2.2.2
  have M1 : Hid (∀ W, Calls Tryz.prog 86 #[.agg #[.int .u8 o.vk, .int .u64 o.vb, .string o.vs]] W fun e w' => e = .returned (.bool (may3 o.vk o.vb o.vs)) ∧ Below W.heap.size W w') := fun W => MayR_of o.vk o.vb o.vs W g9.1 g9.2 g8 g10
  have EZ : Hid (∀ W, (binOp .eql 38 (.agg #[.int .u8 o.vk, .int .u64 o.vb, .string o.vs]) (.agg #[.int .u8 0, .int .u64 0, .string ⟨#[]⟩])).run Tryz.prog W = .ok (.bool (decide (o.vk = 0) && decide (o.vb = 0) && emB o.vs)) W) := fun W => eqZv _ _ _ W
  have EN : Hid (∀ W, (binOp .eql 38 (.agg #[.int .u8 o.vk, .int .u64 o.vb, .string o.vs]) (.agg #[.int .u8 20, .int .u64 0, .string ⟨#[]⟩])).run Tryz.prog W = .ok (.bool (nwB o.vk o.vb o.vs)) W) := fun W => eqNw _ _ _ W
  clear g8 g9 g10 ho hk
  unfold hdB
  generalize rcB o = rb at *
  obtain ⟨cd, oa, ob, oc, od, lo, hi, vk, vb, vs⟩ := o
  simp only at hc hF B1 M1 EZ EN ⊢
  generalize may3 vk vb vs = r1 at *
  generalize nwB vk vb vs = r2 at *
  generalize (decide (vk = 0) && decide (vb = 0) && emB vs) = r3 at *
  generalize hv : (inB a1 a2 oa && inB b1 b2 ob && inB c1 c2 oc && inB d1 d2 od && rb && if cd = 1 then r1 || r2 else r3) = VV
  have HV : Hid _ := hv
  have BAD : Hid ((inB a1 a2 oa && inB b1 b2 ob && inB c1 c2 oc && inB d1 d2 od) = false → VV = false) := fun h => by rw [← hv, h]; rfl
  have GUD : Hid ((inB a1 a2 oa && inB b1 b2 ob && inB c1 c2 oc && inB d1 d2 od) = true → VV = (rb && if cd = 1 then r1 || r2 else r3)) := fun h => by rw [← hv, h]; rfl
  clear hv HV
  have c1' : ¬ cd < 1 := by omega
  have c2' : ¬ 23 < cd := by omega
  clear hc
  obtain ⟨AW, eW⟩ : ∃ AW, AW = (w.alloc (.cells #[.int .i64 cd, .int .i64 oa, .int .i64 ob, .int .i64 oc, .int .i64 od, .int .i64 lo, .int .i64 hi, .int .u8 vk, .int .u64 vb, .string vs] 46 (0, 0))).alloc (.cells #[.string f.nm, .int .i64 f.wh, .int .i64 f.ce, .int .i64 f.ba, .int .i64 f.rg, .int .i64 f.sl, .slice x1 f.os.length p1, .slice x2 f.ls.length p2] 44 (0, 0)) := ⟨_, rfl⟩
  have AX := (tv_at w (.cells #[.int .i64 cd, .int .i64 oa, .int .i64 ob, .int .i64 oc, .int .i64 od, .int .i64 lo, .int .i64 hi, .int .u8 vk, .int .u64 vb, .string vs] 46 (0, 0)) (.cells #[.string f.nm, .int .i64 f.wh, .int .i64 f.ce, .int .i64 f.ba, .int .i64 f.rg, .int .i64 f.sl, .slice x1 f.os.length p1, .slice x2 f.ls.length p2] 44 (0, 0))).1
  have AY := (tv_at w (.cells #[.int .i64 cd, .int .i64 oa, .int .i64 ob, .int .i64 oc, .int .i64 od, .int .i64 lo, .int .i64 hi, .int .u8 vk, .int .u64 vb, .string vs] 46 (0, 0)) (.cells #[.string f.nm, .int .i64 f.wh, .int .i64 f.ce, .int .i64 f.ba, .int .i64 f.rg, .int .i64 f.sl, .slice x1 f.os.length p1, .slice x2 f.ls.length p2] 44 (0, 0))).2
  rw [← eW] at AX AY
  have AB0 : Hid (Below w.heap.size w AW) := by rw [eW]; exact ((Below.refl _ _).alloc (Nat.le_refl _) _).alloc (by simp) _
  have k0 : AW.cell? ⟨w.heap.size, 0, none⟩ = some (.int .i64 cd) := by simp [World.cell?, AX]
  have k1 : AW.cell? ⟨w.heap.size, 1, none⟩ = some (.int .i64 oa) := by simp [World.cell?, AX]
  have k2 : AW.cell? ⟨w.heap.size, 2, none⟩ = some (.int .i64 ob) := by simp [World.cell?, AX]
  have k3 : AW.cell? ⟨w.heap.size, 3, none⟩ = some (.int .i64 oc) := by simp [World.cell?, AX]
  have k4 : AW.cell? ⟨w.heap.size, 4, none⟩ = some (.int .i64 od) := by simp [World.cell?, AX]
  have k5 : AW.cell? ⟨w.heap.size, 5, none⟩ = some (.int .i64 lo) := by simp [World.cell?, AX]
  have k6 : AW.cell? ⟨w.heap.size, 6, none⟩ = some (.int .i64 hi) := by simp [World.cell?, AX]
  have k7 : AW.cell? ⟨w.heap.size, 7, none⟩ = some (.int .u8 vk) := by simp [World.cell?, AX]
  have k8 : AW.cell? ⟨w.heap.size, 8, none⟩ = some (.int .u64 vb) := by simp [World.cell?, AX]
  have k9 : AW.cell? ⟨w.heap.size, 9, none⟩ = some (.string vs) := by simp [World.cell?, AX]
  have q0 : AW.cell? ⟨w.heap.size + 1, 0, none⟩ = some (.string f.nm) := by simp [World.cell?, AY]
  have q1 : AW.cell? ⟨w.heap.size + 1, 1, none⟩ = some (.int .i64 f.wh) := by simp [World.cell?, AY]
  have q2 : AW.cell? ⟨w.heap.size + 1, 2, none⟩ = some (.int .i64 f.ce) := by simp [World.cell?, AY]
  have q3 : AW.cell? ⟨w.heap.size + 1, 3, none⟩ = some (.int .i64 f.ba) := by simp [World.cell?, AY]
  have q4 : AW.cell? ⟨w.heap.size + 1, 4, none⟩ = some (.int .i64 f.rg) := by simp [World.cell?, AY]
  have q5 : AW.cell? ⟨w.heap.size + 1, 5, none⟩ = some (.int .i64 f.sl) := by simp [World.cell?, AY]
  have q6 : AW.cell? ⟨w.heap.size + 1, 6, none⟩ = some (.slice x1 f.os.length p1) := by simp [World.cell?, AY]
  have q7 : AW.cell? ⟨w.heap.size + 1, 7, none⟩ = some (.slice x2 f.ls.length p2) := by simp [World.cell?, AY]
  have AX0 : Hid (AW.heap[w.heap.size]? = some (.cells #[.int .i64 cd, .int .i64 oa, .int .i64 ob, .int .i64 oc, .int .i64 od, .int .i64 lo, .int .i64 hi, .int .u8 vk, .int .u64 vb, .string vs] 46 (0, 0))) := AX
  go_enter Tryz.func40, Tryz.ntmps40
  go_upto_region 1 with fail
  rw [← eW]
  clear eW AX AY
  go_wp2_with fail
  refine (hF.out _).mono ?_
  rintro e v1 ⟨rfl, hb1⟩
  have VB : Hid (Below w.heap.size w v1) := AB0.out.trans (hb1.mono AB0.out.size)
  have VX : Hid (v1.heap[w.heap.size]? = some (.cells #[.int .i64 cd, .int .i64 oa, .int .i64 ob, .int .i64 oc, .int .i64 od, .int .i64 lo, .int .i64 hi, .int .u8 vk, .int .u64 vb, .string vs] 46 (0, 0))) := (hb1.block _ (blk_in AX0.out)).trans AX0.out
  clear hb1 k0 k1 k2 k3 k4 k5 k6 k7 k8 k9 q0 q1 q2 q3 q4 q5 q6 q7 AB0 AX0 hF
  obtain ⟨AR, eR⟩ : ∃ AR, AR = v1.alloc (.cells #[.int .i64 a2, .int .i64 b2, .int .i64 c2, .int .i64 d2, .int .i64 a1, .int .i64 b1, .int .i64 c1, .int .i64 d1, .int .i64 bk] 141 (0, 0)) := ⟨_, rfl⟩
  have AB : Hid (Below w.heap.size w AR) := by rw [eR]; exact VB.out.trans (((Below.refl _ _).alloc (Nat.le_refl _) _).mono VB.out.size)
  have XX : AR.heap[v1.heap.size]? = some (.cells #[.int .i64 a2, .int .i64 b2, .int .i64 c2, .int .i64 d2, .int .i64 a1, .int .i64 b1, .int .i64 c1, .int .i64 d1, .int .i64 bk] 141 (0, 0)) := by rw [eR]; exact heap_alloc_last _ _
  have OX : Hid (AR.heap[w.heap.size]? = some (.cells #[.int .i64 cd, .int .i64 oa, .int .i64 ob, .int .i64 oc, .int .i64 od, .int .i64 lo, .int .i64 hi, .int .u8 vk, .int .u64 vb, .string vs] 46 (0, 0))) := by rw [eR]; exact (((Below.refl v1.heap.size v1).alloc (Nat.le_refl _) _).block _ (blk_in VX.out)).trans VX.out
  go_upto_region 4 with fail
  rw [← eR]
  clear eR
  have x0c : AR.cell? ⟨v1.heap.size, 0, none⟩ = some (.int .i64 a2) := by simp [World.cell?, XX]
  have x1c : AR.cell? ⟨v1.heap.size, 1, none⟩ = some (.int .i64 b2) := by simp [World.cell?, XX]
  have x2c : AR.cell? ⟨v1.heap.size, 2, none⟩ = some (.int .i64 c2) := by simp [World.cell?, XX]
  have x3c : AR.cell? ⟨v1.heap.size, 3, none⟩ = some (.int .i64 d2) := by simp [World.cell?, XX]
  have x4c : AR.cell? ⟨v1.heap.size, 4, none⟩ = some (.int .i64 a1) := by simp [World.cell?, XX]
  have x5c : AR.cell? ⟨v1.heap.size, 5, none⟩ = some (.int .i64 b1) := by simp [World.cell?, XX]
  have x6c : AR.cell? ⟨v1.heap.size, 6, none⟩ = some (.int .i64 c1) := by simp [World.cell?, XX]
  have x7c : AR.cell? ⟨v1.heap.size, 7, none⟩ = some (.int .i64 d1) := by simp [World.cell?, XX]
  have x8c : AR.cell? ⟨v1.heap.size, 8, none⟩ = some (.int .i64 bk) := by simp [World.cell?, XX]
  have k0 : AR.cell? ⟨w.heap.size, 0, none⟩ = some (.int .i64 cd) := by simp [World.cell?, OX.out]
  have k1 : AR.cell? ⟨w.heap.size, 1, none⟩ = some (.int .i64 oa) := by simp [World.cell?, OX.out]
  have k2 : AR.cell? ⟨w.heap.size, 2, none⟩ = some (.int .i64 ob) := by simp [World.cell?, OX.out]
  have k3 : AR.cell? ⟨w.heap.size, 3, none⟩ = some (.int .i64 oc) := by simp [World.cell?, OX.out]
  have k4 : AR.cell? ⟨w.heap.size, 4, none⟩ = some (.int .i64 od) := by simp [World.cell?, OX.out]
  have k5 : AR.cell? ⟨w.heap.size, 5, none⟩ = some (.int .i64 lo) := by simp [World.cell?, OX.out]
  have k6 : AR.cell? ⟨w.heap.size, 6, none⟩ = some (.int .i64 hi) := by simp [World.cell?, OX.out]
  have k7 : AR.cell? ⟨w.heap.size, 7, none⟩ = some (.int .u8 vk) := by simp [World.cell?, OX.out]
  have k8 : AR.cell? ⟨w.heap.size, 8, none⟩ = some (.int .u64 vb) := by simp [World.cell?, OX.out]
  have k9 : AR.cell? ⟨w.heap.size, 9, none⟩ = some (.string vs) := by simp [World.cell?, OX.out]
  have KK : Hid (AR.cell? ⟨w.heap.size, 1, none⟩ = some (.int .i64 oa) ∧ AR.cell? ⟨w.heap.size, 2, none⟩ = some (.int .i64 ob) ∧ AR.cell? ⟨w.heap.size, 3, none⟩ = some (.int .i64 oc) ∧ AR.cell? ⟨w.heap.size, 4, none⟩ = some (.int .i64 od)) := ⟨k1, k2, k3, k4⟩
  clear XX
  by_cases t0 : a1 ≤ oa
  case neg =>
    have ev : VV = false := BAD.out (by unfold inB; simp [decide_eq_false t0])
    subst ev
    clear k0 k1 k2 k3 k4 k5 k6 k7 k8 k9
    obtain ⟨k1', k2', k3', k4'⟩ := KK.out
    go_wp2
    go_ret
    exact ⟨rfl, AB.out⟩
  by_cases t1 : oa ≤ a2
  case neg =>
    have ev : VV = false := BAD.out (by unfold inB; simp [decide_eq_false t1])
    subst ev
    clear k0 k1 k2 k3 k4 k5 k6 k7 k8 k9
    obtain ⟨k1', k2', k3', k4'⟩ := KK.out
    go_wp2
    go_ret
    exact ⟨rfl, AB.out⟩
  by_cases t2 : b1 ≤ ob
  case neg =>
    have ev : VV = false := BAD.out (by unfold inB; simp [decide_eq_false t2])
    subst ev
    clear k0 k1 k2 k3 k4 k5 k6 k7 k8 k9
    obtain ⟨k1', k2', k3', k4'⟩ := KK.out
    go_wp2
    go_ret
    exact ⟨rfl, AB.out⟩
  by_cases t3 : ob ≤ b2
  case neg =>
    have ev : VV = false := BAD.out (by unfold inB; simp [decide_eq_false t3])
    subst ev
    clear k0 k1 k2 k3 k4 k5 k6 k7 k8 k9
    obtain ⟨k1', k2', k3', k4'⟩ := KK.out
    go_wp2
    go_ret
    exact ⟨rfl, AB.out⟩
  by_cases t4 : c1 ≤ oc
  case neg =>
    have ev : VV = false := BAD.out (by unfold inB; simp [decide_eq_false t4])
    subst ev
    clear k0 k1 k2 k3 k4 k5 k6 k7 k8 k9
    obtain ⟨k1', k2', k3', k4'⟩ := KK.out
    go_wp2
    go_ret
    exact ⟨rfl, AB.out⟩
  by_cases t5 : oc ≤ c2
  case neg =>
    have ev : VV = false := BAD.out (by unfold inB; simp [decide_eq_false t5])
    subst ev
    clear k0 k1 k2 k3 k4 k5 k6 k7 k8 k9
    obtain ⟨k1', k2', k3', k4'⟩ := KK.out
    go_wp2
    go_ret
    exact ⟨rfl, AB.out⟩
  by_cases t6 : d1 ≤ od
  case neg =>
    have ev : VV = false := BAD.out (by unfold inB; simp [decide_eq_false t6])
    subst ev
    clear k0 k1 k2 k3 k4 k5 k6 k7 k8 k9
    obtain ⟨k1', k2', k3', k4'⟩ := KK.out
    go_wp2
    go_ret
    exact ⟨rfl, AB.out⟩
  by_cases t7 : od ≤ d2
  case neg =>
    have ev : VV = false := BAD.out (by unfold inB; simp [decide_eq_false t7])
    subst ev
    clear k0 k1 k2 k3 k4 k5 k6 k7 k8 k9
    obtain ⟨k1', k2', k3', k4'⟩ := KK.out
    go_wp2
    go_ret
    exact ⟨rfl, AB.out⟩
  rw [show (inB a1 a2 oa && inB b1 b2 ob && inB c1 c2 oc && inB d1 d2 od) = true by unfold inB; simp only [decide_eq_true t0, decide_eq_true t1, decide_eq_true t2, decide_eq_true t3, decide_eq_true t4, decide_eq_true t5, decide_eq_true t6, decide_eq_true t7, Bool.and_self]] at GUD
  have EV : Hid _ := GUD.out rfl
  clear GUD BAD
  go_wp2_with fail
  refine (B1.out _).mono ?_
  rintro e v2 ⟨rfl, hb2⟩
  have V2 : Hid (Below w.heap.size w v2) := AB.out.trans (hb2.mono AB.out.size)
  have O2 : Hid (v2.heap[w.heap.size]? = some (.cells #[.int .i64 cd, .int .i64 oa, .int .i64 ob, .int .i64 oc, .int .i64 od, .int .i64 lo, .int .i64 hi, .int .u8 vk, .int .u64 vb, .string vs] 46 (0, 0))) := (hb2.block _ (blk_in OX.out)).trans OX.out
  clear hb2 k0 k1 k2 k3 k4 k5 k6 k7 k8 k9 x0c x1c x2c x3c x4c x5c x6c x7c x8c KK t0 t1 t2 t3 t4 t5 t6 t7
  have k0 : v2.cell? ⟨w.heap.size, 0, none⟩ = some (.int .i64 cd) := by simp [World.cell?, O2.out]
  have k1 : v2.cell? ⟨w.heap.size, 1, none⟩ = some (.int .i64 oa) := by simp [World.cell?, O2.out]
  have k2 : v2.cell? ⟨w.heap.size, 2, none⟩ = some (.int .i64 ob) := by simp [World.cell?, O2.out]
  have k3 : v2.cell? ⟨w.heap.size, 3, none⟩ = some (.int .i64 oc) := by simp [World.cell?, O2.out]
  have k4 : v2.cell? ⟨w.heap.size, 4, none⟩ = some (.int .i64 od) := by simp [World.cell?, O2.out]
  have k5 : v2.cell? ⟨w.heap.size, 5, none⟩ = some (.int .i64 lo) := by simp [World.cell?, O2.out]
  have k6 : v2.cell? ⟨w.heap.size, 6, none⟩ = some (.int .i64 hi) := by simp [World.cell?, O2.out]
  have k7 : v2.cell? ⟨w.heap.size, 7, none⟩ = some (.int .u8 vk) := by simp [World.cell?, O2.out]
  have k8 : v2.cell? ⟨w.heap.size, 8, none⟩ = some (.int .u64 vb) := by simp [World.cell?, O2.out]
  have k9 : v2.cell? ⟨w.heap.size, 9, none⟩ = some (.string vs) := by simp [World.cell?, O2.out]
  cases rb
  · have ev : VV = false := EV.out
    subst ev
    go_wp2
    go_ret
    exact ⟨rfl, V2.out⟩
  rw [Bool.true_and] at EV
  by_cases q1 : cd = 1
  case neg =>
    have n1 : (cd == 1) = false := by simp [q1]
    have n2 : (cd != 1) = true := by simp [q1]
    rw [if_neg q1] at EV
    have ev : VV = r3 := EV.out
    subst ev
    have ez := EZ.out
    clear q1
    go_wp2
    go_ret
    exact ⟨rfl, V2.out⟩
  have n1 : (cd == 1) = true := by simp [q1]
  have n2 : (cd != 1) = false := by simp [q1]
  rw [if_pos q1] at EV
  have en := EN.out
  clear q1
  go_wp2_with fail
  refine (M1.out _).mono ?_
  rintro e v3 ⟨rfl, hb3⟩
  have V3 : Hid (Below w.heap.size w v3) := V2.out.trans (hb3.mono V2.out.size)
  have O3 : Hid (v3.heap[w.heap.size]? = some (.cells #[.int .i64 cd, .int .i64 oa, .int .i64 ob, .int .i64 oc, .int .i64 od, .int .i64 lo, .int .i64 hi, .int .u8 vk, .int .u64 vb, .string vs] 46 (0, 0))) := (hb3.block _ (blk_in O2.out)).trans O2.out
  clear hb3 k0 k1 k2 k3 k4 k5 k6 k7 k8 k9
  have k0 : v3.cell? ⟨w.heap.size, 0, none⟩ = some (.int .i64 cd) := by simp [World.cell?, O3.out]
  have k1 : v3.cell? ⟨w.heap.size, 1, none⟩ = some (.int .i64 oa) := by simp [World.cell?, O3.out]
  have k2 : v3.cell? ⟨w.heap.size, 2, none⟩ = some (.int .i64 ob) := by simp [World.cell?, O3.out]
  have k3 : v3.cell? ⟨w.heap.size, 3, none⟩ = some (.int .i64 oc) := by simp [World.cell?, O3.out]
  have k4 : v3.cell? ⟨w.heap.size, 4, none⟩ = some (.int .i64 od) := by simp [World.cell?, O3.out]
  have k5 : v3.cell? ⟨w.heap.size, 5, none⟩ = some (.int .i64 lo) := by simp [World.cell?, O3.out]
  have k6 : v3.cell? ⟨w.heap.size, 6, none⟩ = some (.int .i64 hi) := by simp [World.cell?, O3.out]
  have k7 : v3.cell? ⟨w.heap.size, 7, none⟩ = some (.int .u8 vk) := by simp [World.cell?, O3.out]
  have k8 : v3.cell? ⟨w.heap.size, 8, none⟩ = some (.int .u64 vb) := by simp [World.cell?, O3.out]
  have k9 : v3.cell? ⟨w.heap.size, 9, none⟩ = some (.string vs) := by simp [World.cell?, O3.out]
  cases r1
  · have ev : VV = r2 := EV.out
    subst ev
    go_wp2
    go_ret
    exact ⟨rfl, V3.out⟩
  · have ev : VV = true := EV.out
    subst ev
    go_wp2
    go_ret
    exact ⟨rfl, V3.out⟩
theorem instrR_of (o : OpR) (f : FlR) (x1 x2 : Option Addr) (p1 p2 : Nat) (cs : Int) (w : World) (ho : OpOk o) (hr : 0 ≤ f.rg ∧ f.rg ≤ 8) (hs : 0 ≤ f.sl ∧ f.sl ≤ 1024) (hn : f.os.length ≤ 1048576) (hq : 0 ≤ cs ∧ cs ≤ 1048576) : Calls Tryz.prog 40 #[OpV o, FlV f x1 x2 p1 p2, .int .i64 cs] w fun e w' => e = .returned (.bool (opB o f.rg f.sl f.os.length cs)) ∧ Below w.heap.size w w' := by
  unfold opB
  cases q : inB 1 23 o.cd
  · rw [Bool.false_and, Bool.false_and, Bool.false_and]
    exact instrR_no o f x1 x2 p1 p2 cs q w
  · have hc := inB_t q
    have F : Hid (∀ W, RlOk o.cd f x1 x2 p1 p2 cs W) := fun W => ofR_of o.cd f x1 x2 p1 p2 cs W hc hr hs hn hq
    unfold RlOk rlV at F
    rw [Bool.true_and]
    unfold spB
    generalize spO o.cd (f.rg - 1) (f.sl - 1) ((f.os.length : Int) - 1) (cs - 1) = s at *
    exact instrR_yes o f x1 x2 p1 p2 cs s.1.1 s.1.2 s.2.1.1 s.2.1.2 s.2.2.1.1 s.2.2.1.2 s.2.2.2.1 s.2.2.2.2 (bdK o.cd) w hc ho rfl F
end Go.Proofs.YtdcjngakmkgbmaaGreat
