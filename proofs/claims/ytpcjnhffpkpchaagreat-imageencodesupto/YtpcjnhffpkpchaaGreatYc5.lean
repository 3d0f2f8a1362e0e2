/- image: may an instruction be; no statement of the seat is proved here. -/
import Derived.Test.YtpcjnhffpkpchaaGreatCkHY
import Derived.Test.YtpcjnhffpkpchaaGreatCkIY
namespace Go.Proofs.YtpcjnhffpkpchaaGreat
set_option linter.unusedVariables false
open Go.RowKit
theorem eqZv (k b : Int) (s : ByteArray) (w : World) : (binOp .eql 40 (.agg #[.int .u8 k, .int .u64 b, .string s]) (.agg #[.int .u8 0, .int .u64 0, .string ⟨#[]⟩])).run Tryz.prog w = .ok (.bool (decide (k = 0) && decide (b = 0) && emB s)) w := by
  unfold emB
  by_cases h1 : k = 0
  · subst h1
    by_cases h2 : b = 0
    · subst h2
      by_cases h3 : s.toList = []
      · simp [go_sem, h3]
      · simp [go_sem, h3]
    · simp [go_sem, h2]
  · simp [go_sem, h1]
set_option maxRecDepth 20000 in
set_option maxHeartbeats 4000000 in
theorem mayHold_of (o : OpR) (ho : OpOk o) (w : World) : Calls Tryz.prog 91 #[OpV o] w fun e w' => e = .returned (.bool (hdB o)) ∧ Below w.heap.size w w' := by
  obtain ⟨h1, h2, h3, h4, h5, h6, h7, h8, h9, h10⟩ := ho
  have g8 := wf_u8 h8
  have g9 := wf_u64 h9
  have g10 := sh_max h10
  clear h1 h2 h3 h4 h5 h6 h7 h8 h9 h10
  obtain ⟨cd, oa, ob, oc, od, lo, hi, vk, vb, vs⟩ := o
  simp only at g8 g9 g10
  unfold hdB
  simp only
  have M1 : Hid (∀ W, Calls Tryz.prog 106 #[.agg #[.int .u8 vk, .int .u64 vb, .string vs]] W fun e w' => e = .returned (.bool (may3 vk vb vs)) ∧ Below W.heap.size W w') := fun W => May_of vk vb vs W g9.1 g9.2 g8 g10
  clear g8 g9 g10
  by_cases q : cd = 1
  · subst q
    rw [if_pos rfl]
    have ev := eqNw vk vb vs
    generalize may3 vk vb vs = r1 at *
    generalize nwB vk vb vs = r2 at *
    have N1 : Hid (∀ W, Calls Tryz.prog 102 #[] W fun e w' => e = .returned (.agg #[.int .u8 20, .int .u64 0, .string ⟨#[]⟩]) ∧ Below W.heap.size W w') := fun W => nowhere_of W
    cases r1
    all_goals
      go_enter Tryz.func91, Tryz.ntmps91
      go_wp2_with fail
      obtain ⟨AW, eW⟩ : ∃ AW, AW = w.alloc (.cells #[.int .i64 1, .int .i64 oa, .int .i64 ob, .int .i64 oc, .int .i64 od, .int .i64 lo, .int .i64 hi, .int .u8 vk, .int .u64 vb, .string vs] 86 (0, 0)) := ⟨_, rfl⟩
      have AX : AW.heap[w.heap.size]? = some (.cells #[.int .i64 1, .int .i64 oa, .int .i64 ob, .int .i64 oc, .int .i64 od, .int .i64 lo, .int .i64 hi, .int .u8 vk, .int .u64 vb, .string vs] 86 (0, 0)) := by rw [eW]; exact heap_alloc_last _ _
      have AB : Hid (Below w.heap.size w AW) := by rw [eW]; exact (Below.refl _ _).alloc (Nat.le_refl _) _
      rw [← eW]
      clear eW
      have zl := blk_in AX
      have c7 : ∀ y : Sub AW, y.w.cell? ⟨w.heap.size, 7, none⟩ = some (.int .u8 vk) := fun y => (y.h.cell (p := ⟨w.heap.size, 7, none⟩) zl).trans (by simp [World.cell?, AX])
      have c8 : ∀ y : Sub AW, y.w.cell? ⟨w.heap.size, 8, none⟩ = some (.int .u64 vb) := fun y => (y.h.cell (p := ⟨w.heap.size, 8, none⟩) zl).trans (by simp [World.cell?, AX])
      have c9 : ∀ y : Sub AW, y.w.cell? ⟨w.heap.size, 9, none⟩ = some (.string vs) := fun y => (y.h.cell (p := ⟨w.heap.size, 9, none⟩) zl).trans (by simp [World.cell?, AX])
      have M2 : Hid (∀ y : Sub AW, _) := fun y => M1.out y.w
      have N2 : Hid (∀ y : Sub AW, _) := fun y => N1.out y.w
      clear AX
      refine wp_region_sub2 (by kernel_rfl) (by kernel_rfl) ?_
      intro cx
      clear cx
      repeat (first | go_big_quiet_skip | (go_big_quiet_want; go_big_quiet_op; first | go_big_quiet_on | (refine ⟨_, fun _ => rfl, ?_⟩; go_big_quiet_on) | go_big_quiet_call (first | (go_at_call 102; exact calls_sub (N2.out _)) | (go_at_call 106; exact calls_sub (M2.out _)))))
      refine wpQuiet_nil ?_
      rintro _ ⟨y, rfl⟩
      have Y : Hid (Below w.heap.size w y.w) := bl_tr AB.out y.h
      clear c7 c8 c9 N2 M2 zl ev
      go_wp2
      go_ret
      exact ⟨by first | rfl | simp, Y.out⟩
  · rw [if_neg q]
    have p : (cd == 1) = false := by simp [q]
    clear q M1
    have ev := eqZv vk vb vs
    generalize (decide (vk = 0) && decide (vb = 0) && emB vs) = r at *
    go_enter Tryz.func91, Tryz.ntmps91
    go_wp2
    go_ret
    exact ⟨rfl, by go_grown⟩
end Go.Proofs.YtpcjnhffpkpchaaGreat
namespace Go.Proofs.YtpcjnhffpkpchaaGreat
set_option linter.unusedVariables false
open Go.RowKit
theorem mayDo_no (o : OpR) (f : FlR) (x1 x2 : Option Addr) (p1 p2 : Nat) (cs : Int) (h : inB 1 23 o.cd = false) (w : World) : Calls Tryz.prog 56 #[OpV o, FlV f x1 x2 p1 p2, .int .i64 cs] w fun e w' => e = .returned (.bool false) ∧ Below w.heap.size w w' := by
  unfold inB at h
  by_cases c1 : 1 ≤ o.cd
  · have c2 : ¬ o.cd ≤ 23 := by simp [c1] at h; omega
    clear h
    go_enter Tryz.func56, Tryz.ntmps56
    go_wp2
    go_ret
    exact ⟨rfl, by go_grown⟩
  · clear h
    go_enter Tryz.func56, Tryz.ntmps56
    go_wp2
    go_ret
    exact ⟨rfl, by go_grown⟩
theorem ix4_0 (a b c d : Int) (w : World) : (Instr.index 141 (.agg #[.int .i64 a, .int .i64 b, .int .i64 c, .int .i64 d]) (.int .i64 0)).run Tryz.prog w = .ok (.int .i64 a) w := by kernel_rfl
theorem ix4_1 (a b c d : Int) (w : World) : (Instr.index 141 (.agg #[.int .i64 a, .int .i64 b, .int .i64 c, .int .i64 d]) (.int .i64 1)).run Tryz.prog w = .ok (.int .i64 b) w := by kernel_rfl
theorem ix4_2 (a b c d : Int) (w : World) : (Instr.index 141 (.agg #[.int .i64 a, .int .i64 b, .int .i64 c, .int .i64 d]) (.int .i64 2)).run Tryz.prog w = .ok (.int .i64 c) w := by kernel_rfl
theorem ix4_3 (a b c d : Int) (w : World) : (Instr.index 141 (.agg #[.int .i64 a, .int .i64 b, .int .i64 c, .int .i64 d]) (.int .i64 3)).run Tryz.prog w = .ok (.int .i64 d) w := by kernel_rfl
/-- Which of four. -/
def pick4 (r0 r1 r2 r3 : Bool) : Nat → Bool
  | 0 => r0
  | 1 => r1
  | 2 => r2
  | _ => r3
set_option maxRecDepth 20000 in
set_option maxHeartbeats 8000000 in
theorem mayDo_yes (o : OpR) (f : FlR) (x1 x2 : Option Addr) (p1 p2 : Nat) (cs : Int) (a1 a2 b1 b2 d1 d2 e1 e2 : Int) (w : World) (hc : 1 ≤ o.cd ∧ o.cd ≤ 23) (ho : OpOk o)
    (F : Hid (∀ W, Calls Tryz.prog 89 #[.int .i64 o.cd, FlV f x1 x2 p1 p2, .int .i64 cs] W fun e w' => e = .returned (.agg #[.int .i64 a1, .int .i64 a2, .int .i64 b1, .int .i64 b2, .int .i64 d1, .int .i64 d2, .int .i64 e1, .int .i64 e2]) ∧ Below W.heap.size W w')) :
    Calls Tryz.prog 56 #[OpV o, FlV f x1 x2 p1 p2, .int .i64 cs] w fun e w' => e = .returned (.bool (inB a1 a2 o.a && inB b1 b2 o.b && inB d1 d2 o.c && inB e1 e2 o.d && rcB o && hdB o)) ∧ Below w.heap.size w w' := by
  have H0 : Hid (∀ W, Calls Tryz.prog 87 #[.agg #[.int .i64 a1, .int .i64 a2], .int .i64 o.a] W fun e w' => e = .returned (.bool (inB a1 a2 o.a)) ∧ Below W.heap.size W w') := fun W => has_of _ _ _ W
  have H1 : Hid (∀ W, Calls Tryz.prog 87 #[.agg #[.int .i64 b1, .int .i64 b2], .int .i64 o.b] W fun e w' => e = .returned (.bool (inB b1 b2 o.b)) ∧ Below W.heap.size W w') := fun W => has_of _ _ _ W
  have H2 : Hid (∀ W, Calls Tryz.prog 87 #[.agg #[.int .i64 d1, .int .i64 d2], .int .i64 o.c] W fun e w' => e = .returned (.bool (inB d1 d2 o.c)) ∧ Below W.heap.size W w') := fun W => has_of _ _ _ W
  have H3 : Hid (∀ W, Calls Tryz.prog 87 #[.agg #[.int .i64 e1, .int .i64 e2], .int .i64 o.d] W fun e w' => e = .returned (.bool (inB e1 e2 o.d)) ∧ Below W.heap.size W w') := fun W => has_of _ _ _ W
  have M1 : Hid (∀ W, Calls Tryz.prog 90 #[OpV o] W fun e w' => e = .returned (.bool (rcB o)) ∧ Below W.heap.size W w') := fun W => mayReach_of o hc ho W
  have M2 : Hid (∀ W, Calls Tryz.prog 91 #[OpV o] W fun e w' => e = .returned (.bool (hdB o)) ∧ Below W.heap.size W w') := fun W => mayHold_of o ho W
  have c1 : ¬ o.cd < 1 := by omega
  have c2 : ¬ 24 ≤ o.cd := by omega
  clear ho hc
  generalize inB a1 a2 o.a = r0 at *
  generalize inB b1 b2 o.b = r1 at *
  generalize inB d1 d2 o.c = r2 at *
  generalize inB e1 e2 o.d = r3 at *
  generalize rcB o = q1 at *
  generalize hdB o = q2 at *
  generalize hv : (r0 && r1 && r2 && r3 && q1 && q2) = VV
  have HV : Hid ((r0 && r1 && r2 && r3 && q1 && q2) = VV) := hv
  clear hv
  go_enter Tryz.func56, Tryz.ntmps56
  go_wp2_with fail
  refine (F.out _).mono ?_
  rintro e w1 ⟨rfl, hb⟩
  have X1 := (hb.block w.heap.size (by simp; omega)).trans (tv_at w _ _).1
  have B1 : Hid (Below w.heap.size w w1) := bl_tr (by go_grown) hb
  have zl : w.heap.size < w1.heap.size := blk_in X1
  have k1 : w1.cell? ⟨w.heap.size, 1, none⟩ = some (.int .i64 o.a) := by simp [World.cell?, X1]
  have k2 : w1.cell? ⟨w.heap.size, 2, none⟩ = some (.int .i64 o.b) := by simp [World.cell?, X1]
  have k3 : w1.cell? ⟨w.heap.size, 3, none⟩ = some (.int .i64 o.c) := by simp [World.cell?, X1]
  have k4 : w1.cell? ⟨w.heap.size, 4, none⟩ = some (.int .i64 o.d) := by simp [World.cell?, X1]
  have XX : Hid _ := X1
  clear hb X1
  go_wp2_with fail
  obtain ⟨AW, eW⟩ : ∃ AW, AW = w1.alloc (.cells #[.int .i64 a1, .int .i64 a2, .int .i64 b1, .int .i64 b2, .int .i64 d1, .int .i64 d2, .int .i64 e1, .int .i64 e2] 139 (0, 0)) := ⟨_, rfl⟩
  have AS : Hid (AW.heap[w1.heap.size]? = some (.cells #[.int .i64 a1, .int .i64 a2, .int .i64 b1, .int .i64 b2, .int .i64 d1, .int .i64 d2, .int .i64 e1, .int .i64 e2] 139 (0, 0))) := by rw [eW]; exact heap_alloc_last _ _
  have AO : Hid (AW.heap[w.heap.size]? = some (.cells #[.int .i64 o.cd, .int .i64 o.a, .int .i64 o.b, .int .i64 o.c, .int .i64 o.d, .int .i64 o.lo, .int .i64 o.hi, .int .u8 o.vk, .int .u64 o.vb, .string o.vs] 86 (0, 0))) := by rw [eW]; exact (Below.heap_alloc _ _ _ zl).trans XX.out
  have AB : Hid (Below w.heap.size w AW) := by rw [eW]; exact B1.out.trans (((Below.refl _ _).alloc (Nat.le_refl _) _).mono B1.out.size)
  rw [← eW]
  clear eW k1 k2 k3 k4 XX
  go_loopw [32] (fun i wr => ∃ k : Nat, k ≤ 4 ∧ i = .int .i64 k ∧ Below w.heap.size w wr ∧ wr.heap[w.heap.size]? = some (.cells #[.int .i64 o.cd, .int .i64 o.a, .int .i64 o.b, .int .i64 o.c, .int .i64 o.d, .int .i64 o.lo, .int .i64 o.hi, .int .u8 o.vk, .int .u64 o.vb, .string o.vs] 86 (0, 0)) ∧ wr.heap[w1.heap.size]? = some (.cells #[.int .i64 a1, .int .i64 a2, .int .i64 b1, .int .i64 b2, .int .i64 d1, .int .i64 d2, .int .i64 e1, .int .i64 e2] 139 (0, 0)) ∧ ∀ j, j < k → pick4 r0 r1 r2 r3 j = true) (fun i _ => 4 - (intOf i).toNat)
  case atStart => exact ⟨0, Nat.zero_le _, rfl, AB.out, AO.out, AS.out, fun j hj => absurd hj (Nat.not_lt_zero _)⟩
  case round =>
    obtain ⟨k, hk, rfl, hbw, hx, hs, hall⟩ := hrel
    have HW : Hid (Below w.heap.size w wr) := hbw
    have HX : Hid (wr.heap[w.heap.size]? = some (.cells #[.int .i64 o.cd, .int .i64 o.a, .int .i64 o.b, .int .i64 o.c, .int .i64 o.d, .int .i64 o.lo, .int .i64 o.hi, .int .u8 o.vk, .int .u64 o.vb, .string o.vs] 86 (0, 0))) := hx
    have HB : Hid (wr.heap[w1.heap.size]? = some (.cells #[.int .i64 a1, .int .i64 a2, .int .i64 b1, .int .i64 b2, .int .i64 d1, .int .i64 d2, .int .i64 e1, .int .i64 e2] 139 (0, 0))) := hs
    have AL : Hid (∀ j, j < k → pick4 r0 r1 r2 r3 j = true) := hall
    clear hall AS AO AB
    by_cases hlt : k < 4
    · have kk : k = 0 ∨ k = 1 ∨ k = 2 ∨ k = 3 := by omega
      clear hk hlt
      rcases kk with rfl | rfl | rfl | rfl
      · have s0 : wr.cell? ⟨w1.heap.size, 0, none⟩ = some (.int .i64 a1) := by simp [World.cell?, hs]
        have s1 : wr.cell? ⟨w1.heap.size, 1, none⟩ = some (.int .i64 a2) := by simp [World.cell?, hs]
        have ix := ix4_0 o.a o.b o.c o.d
        clear hx hs hbw
        go_wp2_with fail
        refine (H0.out _).mono ?_
        rintro e w5 ⟨rfl, hb5⟩
        have B5 : Hid (Below wr.heap.size wr w5) := hb5
        clear hb5 s0 s1
        cases r0
        · have ev : VV = false := by rw [← HV.out]; simp
          subst ev
          go_wp2
          go_ret
          exact ⟨rfl, HW.out.trans (B5.out.mono HW.out.size)⟩
        · go_wp2
          exact ⟨⟨1, by decide, rfl, HW.out.trans (B5.out.mono HW.out.size), (B5.out.block _ (blk_in HX.out)).trans HX.out, (B5.out.block _ (blk_in HB.out)).trans HB.out, fun j hj => by
            rcases Nat.lt_succ_iff_lt_or_eq.1 hj with h | rfl
            · exact AL.out j h
            · rfl⟩, by decide⟩
      · have s0 : wr.cell? ⟨w1.heap.size, 2, none⟩ = some (.int .i64 b1) := by simp [World.cell?, hs]
        have s1 : wr.cell? ⟨w1.heap.size, 3, none⟩ = some (.int .i64 b2) := by simp [World.cell?, hs]
        have ix := ix4_1 o.a o.b o.c o.d
        clear hx hs hbw
        go_wp2_with fail
        refine (H1.out _).mono ?_
        rintro e w5 ⟨rfl, hb5⟩
        have B5 : Hid (Below wr.heap.size wr w5) := hb5
        clear hb5 s0 s1
        cases r1
        · have ev : VV = false := by rw [← HV.out]; simp
          subst ev
          go_wp2
          go_ret
          exact ⟨rfl, HW.out.trans (B5.out.mono HW.out.size)⟩
        · go_wp2
          exact ⟨⟨2, by decide, rfl, HW.out.trans (B5.out.mono HW.out.size), (B5.out.block _ (blk_in HX.out)).trans HX.out, (B5.out.block _ (blk_in HB.out)).trans HB.out, fun j hj => by
            rcases Nat.lt_succ_iff_lt_or_eq.1 hj with h | rfl
            · exact AL.out j h
            · rfl⟩, by decide⟩
      · have s0 : wr.cell? ⟨w1.heap.size, 4, none⟩ = some (.int .i64 d1) := by simp [World.cell?, hs]
        have s1 : wr.cell? ⟨w1.heap.size, 5, none⟩ = some (.int .i64 d2) := by simp [World.cell?, hs]
        have ix := ix4_2 o.a o.b o.c o.d
        clear hx hs hbw
        go_wp2_with fail
        refine (H2.out _).mono ?_
        rintro e w5 ⟨rfl, hb5⟩
        have B5 : Hid (Below wr.heap.size wr w5) := hb5
        clear hb5 s0 s1
        cases r2
        · have ev : VV = false := by rw [← HV.out]; simp
          subst ev
          go_wp2
          go_ret
          exact ⟨rfl, HW.out.trans (B5.out.mono HW.out.size)⟩
        · go_wp2
          exact ⟨⟨3, by decide, rfl, HW.out.trans (B5.out.mono HW.out.size), (B5.out.block _ (blk_in HX.out)).trans HX.out, (B5.out.block _ (blk_in HB.out)).trans HB.out, fun j hj => by
            rcases Nat.lt_succ_iff_lt_or_eq.1 hj with h | rfl
            · exact AL.out j h
            · rfl⟩, by decide⟩
      · have s0 : wr.cell? ⟨w1.heap.size, 6, none⟩ = some (.int .i64 e1) := by simp [World.cell?, hs]
        have s1 : wr.cell? ⟨w1.heap.size, 7, none⟩ = some (.int .i64 e2) := by simp [World.cell?, hs]
        have ix := ix4_3 o.a o.b o.c o.d
        clear hx hs hbw
        go_wp2_with fail
        refine (H3.out _).mono ?_
        rintro e w5 ⟨rfl, hb5⟩
        have B5 : Hid (Below wr.heap.size wr w5) := hb5
        clear hb5 s0 s1
        cases r3
        · have ev : VV = false := by rw [← HV.out]; simp
          subst ev
          go_wp2
          go_ret
          exact ⟨rfl, HW.out.trans (B5.out.mono HW.out.size)⟩
        · go_wp2
          exact ⟨⟨4, by decide, rfl, HW.out.trans (B5.out.mono HW.out.size), (B5.out.block _ (blk_in HX.out)).trans HX.out, (B5.out.block _ (blk_in HB.out)).trans HB.out, fun j hj => by
            rcases Nat.lt_succ_iff_lt_or_eq.1 hj with h | rfl
            · exact AL.out j h
            · rfl⟩, by decide⟩
    · have ek : k = 4 := by omega
      subst ek
      have e0 : r0 = true := AL.out 0 (by decide)
      have e1' : r1 = true := AL.out 1 (by decide)
      have e2' : r2 = true := AL.out 2 (by decide)
      have e3 : r3 = true := AL.out 3 (by decide)
      subst e0 e1' e2' e3
      have k0 : wr.cell? ⟨w.heap.size, 0, none⟩ = some (.int .i64 o.cd) := by simp [World.cell?, hx]
      have k1 : wr.cell? ⟨w.heap.size, 1, none⟩ = some (.int .i64 o.a) := by simp [World.cell?, hx]
      have k2 : wr.cell? ⟨w.heap.size, 2, none⟩ = some (.int .i64 o.b) := by simp [World.cell?, hx]
      have k3 : wr.cell? ⟨w.heap.size, 3, none⟩ = some (.int .i64 o.c) := by simp [World.cell?, hx]
      have k4 : wr.cell? ⟨w.heap.size, 4, none⟩ = some (.int .i64 o.d) := by simp [World.cell?, hx]
      have k5 : wr.cell? ⟨w.heap.size, 5, none⟩ = some (.int .i64 o.lo) := by simp [World.cell?, hx]
      have k6 : wr.cell? ⟨w.heap.size, 6, none⟩ = some (.int .i64 o.hi) := by simp [World.cell?, hx]
      have k7 : wr.cell? ⟨w.heap.size, 7, none⟩ = some (.int .u8 o.vk) := by simp [World.cell?, hx]
      have k8 : wr.cell? ⟨w.heap.size, 8, none⟩ = some (.int .u64 o.vb) := by simp [World.cell?, hx]
      have k9 : wr.cell? ⟨w.heap.size, 9, none⟩ = some (.string o.vs) := by simp [World.cell?, hx]
      clear hx hs hbw hlt hk H0 H1 H2 H3
      go_wp2_with fail
      refine (M1.out _).mono ?_
      rintro e w5 ⟨rfl, hb5⟩
      have B5 : Hid (Below wr.heap.size wr w5) := hb5
      have X5 := (hb5.block _ (blk_in HX.out)).trans HX.out
      clear hb5 k0 k1 k2 k3 k4 k5 k6 k7 k8 k9
      have k0 : w5.cell? ⟨w.heap.size, 0, none⟩ = some (.int .i64 o.cd) := by simp [World.cell?, X5]
      have k1 : w5.cell? ⟨w.heap.size, 1, none⟩ = some (.int .i64 o.a) := by simp [World.cell?, X5]
      have k2 : w5.cell? ⟨w.heap.size, 2, none⟩ = some (.int .i64 o.b) := by simp [World.cell?, X5]
      have k3 : w5.cell? ⟨w.heap.size, 3, none⟩ = some (.int .i64 o.c) := by simp [World.cell?, X5]
      have k4 : w5.cell? ⟨w.heap.size, 4, none⟩ = some (.int .i64 o.d) := by simp [World.cell?, X5]
      have k5 : w5.cell? ⟨w.heap.size, 5, none⟩ = some (.int .i64 o.lo) := by simp [World.cell?, X5]
      have k6 : w5.cell? ⟨w.heap.size, 6, none⟩ = some (.int .i64 o.hi) := by simp [World.cell?, X5]
      have k7 : w5.cell? ⟨w.heap.size, 7, none⟩ = some (.int .u8 o.vk) := by simp [World.cell?, X5]
      have k8 : w5.cell? ⟨w.heap.size, 8, none⟩ = some (.int .u64 o.vb) := by simp [World.cell?, X5]
      have k9 : w5.cell? ⟨w.heap.size, 9, none⟩ = some (.string o.vs) := by simp [World.cell?, X5]
      clear X5
      cases q1
      · have ev : VV = false := by rw [← HV.out]; simp
        subst ev
        go_wp2
        go_ret
        exact ⟨rfl, HW.out.trans (B5.out.mono HW.out.size)⟩
      go_wp2_with fail
      refine (M2.out _).mono ?_
      rintro e w6 ⟨rfl, hb6⟩
      have B6 : Hid (Below wr.heap.size wr w6) := bl_tr B5.out hb6
      clear hb6 k0 k1 k2 k3 k4 k5 k6 k7 k8 k9
      have ev : VV = q2 := by rw [← HV.out]; simp
      subst ev
      cases VV
      all_goals
        go_wp2
        go_ret
        exact ⟨rfl, HW.out.trans (B6.out.mono HW.out.size)⟩
end Go.Proofs.YtpcjnhffpkpchaaGreat
