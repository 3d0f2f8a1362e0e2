/- What the document's Step answers for block 4; no statement of the seat is proved here. -/
import Derived.Test.YtjnegbjgogkamaaDoorRfL
import Derived.Test.YtjnegbjgogkamaaDoorRfN
import Derived.Test.YtjnegbjgogkamaaDoorRfC
import Derived.Test.YtjnegbjgogkamaaDoorBlkX
import Derived.Deep.DeepCutAuto
namespace Go.Proofs.YtjnegbjgogkamaaDoor
set_option linter.unusedVariables false
open Go.RowKit
/-- What a step does with the numbers of block 4. -/
theorem dsp_4 (gn gi cn ci : Nat) (v : Nat → Vl) (cz : Int) (hz : 0 ≤ cz ∧ cz ≤ 4611686018427387904) (w : World) (h : SA w gn gi 3 nLE (nmL 3 v)) (P : ∀ i, i < 3 → okN (kAt ks3 i) (vN v i)) :
    Calls Tryd.prog 37 #[SV gn gi 3 cn ci, .int .i64 4] w fun e w' => e = .returned (.tuple #[]) ∧ Ws w w' gi (nxt 4 cz (nmL 3 v)) := by
  have e : nmL 3 v = [vN v 0, vN v 1, vN v 2] := rfl
  rw [e] at h ⊢
  exact plain_4 gn gi cn ci _ _ _ w h ((P 0 (by decide)).1 rfl) ((P 1 (by decide)).1 rfl) ((P 2 (by decide)).1 rfl)
set_option maxRecDepth 20000 in
set_option maxHeartbeats 16000000 in
theorem StepR_4 (a : Addr) (cap : Nat) (v : Nat → Vl) (now : Int) (w : World) (hv : VsAt w a 3 v) (ho : ∀ i, i < 3 → VlOk (v i)) :
    Calls Tryd.prog 21 #[.int .i64 4, .slice (some a) 3 cap, .int .i64 now] w fun e w' => (tkB ks3 v 3 = true → ∃ g c, e = .returned (.tuple #[.slice (some ⟨g, 0, none⟩) 3 c, .int .i64 0]) ∧ w.heap.size ≤ g ∧ Row3 w' g 3 (vlL ks3 (nxt 4 (clN now) (nmL 3 v)))) ∧ (tkB ks3 v 3 = false → e = .returned (.tuple #[.slice none 0 0, .int .i64 8])) ∧ Below w.heap.size w w' := by
  have HV : Hid (VsAt w a 3 v) := hv
  have HO : Hid (∀ i, i < 3 → VlOk (v i)) := ho
  clear hv ho
  have I1 : Hid (∃ i, Tryd.prog.info? 9 = some i ∧ i.zero = some (.string ⟨#[]⟩) ∧ i.size = 1 ∧ i.bytes = 16) := by
    obtain ⟨i, hi, hz⟩ := Option.map_eq_some_iff.1 (show (Tryd.prog.info? 9).map (fun i => (i.zero, i.size, i.bytes)) = some (some (.string ⟨#[]⟩), 1, 16) by kernel_rfl)
    simp only [Prod.mk.injEq] at hz
    exact ⟨i, hi, hz.1, hz.2.1, hz.2.2⟩
  have I2 : Hid (∃ i, Tryd.prog.info? 3 = some i ∧ i.zero = some (.int .i64 0) ∧ i.size = 1 ∧ i.bytes = 8) := by
    obtain ⟨i, hi, hz⟩ := Option.map_eq_some_iff.1 (show (Tryd.prog.info? 3).map (fun i => (i.zero, i.size, i.bytes)) = some (some (.int .i64 0), 1, 8) by kernel_rfl)
    simp only [Prod.mk.injEq] at hz
    exact ⟨i, hi, hz.1, hz.2.1, hz.2.2⟩
  have I3 : Hid (∃ i, Tryd.prog.info? 34 = some i ∧ i.zero = some (.agg #[.int .u8 0, .int .u64 0, .string ⟨#[]⟩]) ∧ i.size = 3 ∧ i.bytes = 32) := by
    obtain ⟨i, hi, hz⟩ := Option.map_eq_some_iff.1 (show (Tryd.prog.info? 34).map (fun i => (i.zero, i.size, i.bytes)) = some (some (.agg #[.int .u8 0, .int .u64 0, .string ⟨#[]⟩]), 3, 32) by kernel_rfl)
    simp only [Prod.mk.injEq] at hz
    exact ⟨i, hi, hz.1, hz.2.1, hz.2.2⟩
  go_enter Tryd.func21, Tryd.ntmps21
  go_wp2_with fail
  refine (VarsR_4 _).mono ?_
  rintro e w1 ⟨gl, cl, rfl, hgl, ⟨bb, hvr, _⟩, hb1⟩
  have zl : gl < w1.heap.size := block_lt_of_cell (a := ⟨gl, 0 * 16 + 0, none⟩) (hvr 0 (by decide) 0 (by decide))
  have NK : Hid (VNK w1 gl 3 nLE ks3) := fun i hi => ⟨hvr i hi 0 (by decide), hvr i hi 3 (by decide)⟩
  have HB1 : Hid (Below w.heap.size w w1) := hb1
  have HV1 : Hid (VsAt w1 a 3 v) := HV.out.below hb1
  clear hvr hb1 HV
  go_wp2_with fail
  go_loopw [10] (fun i wr => ∃ (k : Nat) (vN vI : Value), k ≤ 3 ∧ i = .int .i64 k ∧ Rws w1 wr w1.heap.size vN vI k k nLE v ∧ (∀ j, j < k → (v j).k = kAt ks3 j ∧ may3 (v j).k (v j).b (v j).s = true)) (fun i _ => 3 - (intOf i).toNat)
  case atStart => exact ⟨0, _, _, Nat.zero_le _, rfl, ⟨heap_alloc_last w1 _, ⟨rfl, .inl ⟨rfl, rfl⟩⟩, ⟨rfl, .inl ⟨rfl, rfl⟩⟩, (Below.refl _ _).alloc (Nat.le_refl _) _, Nat.le_refl _⟩, fun j hj => absurd hj (Nat.not_lt_zero _)⟩
  case round =>
    obtain ⟨k, vN, vI, hk, rfl, hrw, hall⟩ := hrel
    have HR : Hid (Rws w1 wr w1.heap.size vN vI k k nLE v) := hrw
    have hb := hrw.bl
    have HB : Hid (Below w1.heap.size w1 wr) := hb
    have HA : Hid (∀ j, j < k → (v j).k = kAt ks3 j ∧ may3 (v j).k (v j).b (v j).s = true) := hall
    have HBw : Hid (Below w.heap.size w wr) := HB1.out.trans (hb.mono HB1.out.size)
    have NKr : Hid (VNK wr gl 3 nLE ks3) := NK.out.below zl hb
    have zb : w1.heap.size < wr.heap.size := lt_of_block hrw.bx
    by_cases hlt : k < 3
    · obtain ⟨d0, d1, d2⟩ := HV1.out.below hb k hlt
      obtain ⟨e0, e3⟩ := NKr.out k hlt
      have O : Hid _ := HO.out k hlt
      have zg : gl < wr.heap.size := by omega
      have za := block_lt_of_cell d0
      clear hrw hall hb
      have hlt' : (k : Int) < 3 := by omega
      have NV : Hid (may3 (v k).k (v k).b (v k).s = true → (v k).k = kAt ks3 k → wrap64 (v k).b = nmV (v k).k (v k).b) := fun m e => wrap_nm O.out.b0 m (by rw [e]; exact kAt_cases _ _)
      generalize hvk : v k = vk at *
      obtain ⟨vk, vb, vs⟩ := vk
      have HVK : Hid (v k = ⟨vk, vb, vs⟩) := hvk
      clear hvk
      by_cases e : vk = kAt ks3 k
      · have e1 : (vk != kAt ks3 k) = false := by simpa using e
        have e2 : (vk == kAt ks3 k) = true := by simpa using e
        have E : Hid (vk = kAt ks3 k) := e
        clear e
        cases m : may3 vk vb vs
        · have M : Hid (may3 vk vb vs = false) := m
          go_wp2_with fail
          have cy : ∀ x : Sub wr, x.w.cell? (a.add (k * 3)) = some (.int .u8 vk) := fun x => (x.h.cell za).trans d0
          refine wp_region_sub2 (by kernel_rfl) (by kernel_rfl) ?_
          intro cx
          repeat (first | go_big_quiet_skip | (go_big_quiet_want; go_big_quiet_op; first | go_big_quiet_on | (refine ⟨_, fun _ => rfl, ?_⟩; go_big_quiet_on) | go_big_quiet_call (first | (go_at_call 36; exact calls_sub (MayR_of _ _ _ _ O.out.b0 O.out.b1 ⟨O.out.k0, O.out.k1⟩ O.out.s1)))))
          refine wpQuiet_nil ?_
          rintro _ ⟨y, rfl⟩
          have Y : Hid (Below wr.heap.size wr y.w) := y.h
          clear cx cy
          go_wp2
          go_ret2
          exact ⟨fun h => (by rw [← tkB_f hlt (by rw [HVK.out, M.out]; simp)] at h; cases h), fun _ => rfl, HBw.out.trans (Y.out.mono HBw.out.size)⟩
        · have M : Hid (may3 vk vb vs = true) := m
          have WNH : Hid (IntKind.i64.wrap vb = nmV vk vb) := by show _ = _; rw [← NV.out m E.out]; simp [IntKind.wrap, IntKind.signed, IntKind.bits, wrap64]; split <;> omega
          have NS1 : Hid (ntsL v (k + 1) = ntsL v k ++ [.int .i64 (nmV vk vb)]) := by show _ = _; rw [ntsL_succ, HVK.out]
          go_wp2_with fail
          have cy : ∀ x : Sub wr, x.w.cell? (a.add (k * 3)) = some (.int .u8 vk) := fun x => (x.h.cell za).trans d0
          refine wp_region_sub2 (by kernel_rfl) (by kernel_rfl) ?_
          intro cx
          repeat (first | go_big_quiet_skip | (go_big_quiet_want; go_big_quiet_op; first | go_big_quiet_on | (refine ⟨_, fun _ => rfl, ?_⟩; go_big_quiet_on) | go_big_quiet_call (first | (go_at_call 36; exact calls_sub (MayR_of _ _ _ _ O.out.b0 O.out.b1 ⟨O.out.k0, O.out.k1⟩ O.out.s1)))))
          refine wpQuiet_nil ?_
          rintro _ ⟨y, rfl⟩
          have Y : Hid (Below wr.heap.size wr y.w) := y.h
          clear cx cy
          go_wp2_with fail
          obtain ⟨W, hW⟩ := y
          have RW : Hid (Rws w1 W w1.heap.size vN vI k k nLE v) := HR.out.below Y.out
          have q0 := RW.out.c0
          have q1 := RW.out.c1
          have g0 := (hW.cell (p := ⟨gl, k * 16, none⟩) zg).trans e0
          have D1 : Hid (W.cell? ⟨(a.add (k * 3)).block, (a.add (k * 3)).off + 1, none⟩ = some (.int .u64 vb)) := (hW.cell (p := ⟨(a.add (k * 3)).block, (a.add (k * 3)).off + 1, none⟩) za).trans d1
          have zw1 : w1.heap.size < W.heap.size := lt_of_block RW.out.bx
          have zgW : gl < W.heap.size := by omega
          have n1 : ¬ w1.heap.size = W.heap.size := by omega
          have n2 : ¬ gl = W.heap.size := by omega
          clear d0 d1 d2 e0 e3
          generalize hnm : nLE.getD k ⟨#[]⟩ = nm at g0
          have HNM : Hid (nLE.getD k ⟨#[]⟩ = nm) := hnm
          clear hnm
          have u0 := World.new_ne W ⟨w1.heap.size, 0, none⟩ q0
          have u1 := World.new_ne W ⟨gl, k * 16, none⟩ g0
          go_cut [60] (fun s60 wx => ∃ v', Rws w1 wx w1.heap.size v' vI (k + 1) k nLE v)
          case first =>
            go_region_law ((rw [if_pos (by rfl)]; obtain ⟨i, hi, hz, hs, hy⟩ := I1.out; refine wp_append_own _ _ _ 55 rfl w1.heap.size 9 i _ 1 16 Tryd.underlying55 hi hz hs hy rfl (by decide) _ k _ rfl (RW.out.below ((Below.refl _ _).alloc (Nat.le_refl _) _).drew).nm ⟨W.heap.size, 0, none⟩ 1 1 [.string nm] rfl rfl (last_src W _ _) (by intro u hu; simp at hu; subst hu; rfl) (by simp [maxLen]; omega) (by omega) (by simp; omega) ?_; intro v' w' k1 k2 k3; rw [← HNM.out, ← nmsL_succ] at k1; obtain ⟨g', c', rfl⟩ := own_form k1; obtain ⟨X', R'⟩ := (RW.out.below ((Below.refl _ _).alloc (Nat.le_refl _) _).drew).name k2 k1; have x0 : w'.cell? ⟨w1.heap.size, 0, none⟩ = some vN := (by simp [World.cell?, X']); have x1 : w'.frozen? ⟨w1.heap.size, 0, none⟩ = false := (by simp [World.frozen?, X']); have R2 : Hid _ := R'; clear hi hz hs hy k1 k2 k3 X' R'))
            all_goals
              go_wp2
              go_meet
              case rel => exact ⟨_, R2.out⟩
          case rest =>
            obtain ⟨vN', hrw⟩ := hcut
            have RW2 : Hid (Rws w1 wc w1.heap.size vN' vI (k + 1) k nLE v) := hrw
            obtain ⟨m0, m1, m2⟩ := HV1.out k hlt
            rw [HVK.out] at m1
            have c1 := hrw.c1
            have za1 : (a.add (k * 3)).block < w1.heap.size := block_lt_of_cell m0
            have D1 := (hrw.bl.cell (p := ⟨(a.add (k * 3)).block, (a.add (k * 3)).off + 1, none⟩) za1).trans m1
            have zw2 : w1.heap.size < wc.heap.size := lt_of_block hrw.bx
            have zac : (a.add (k * 3)).block < wc.heap.size := Nat.lt_trans za1 zw2
            have n1 : ¬ w1.heap.size = wc.heap.size := by omega
            have n2 : ¬ (a.add (k * 3)).block = wc.heap.size := by omega
            clear m0 m1 m2 hrw
            have u0 := World.new_ne wc ⟨w1.heap.size, 1, none⟩ c1
            have u1 := World.new_ne wc ⟨(a.add (k * 3)).block, (a.add (k * 3)).off + 1, none⟩ D1
            go_wp2_with fail
            go_region_law ((rw [if_pos (by rfl)]; obtain ⟨i, hi, hz, hs, hy⟩ := I2.out; refine wp_append_own _ _ _ 65 rfl w1.heap.size 3 i _ 1 8 Tryd.underlying65 hi hz hs hy rfl (by decide) _ k _ rfl (RW2.out.below ((Below.refl _ _).alloc (Nat.le_refl _) _).drew).nt ⟨wc.heap.size, 0, none⟩ 1 1 [.int .i64 (IntKind.i64.wrap vb)] rfl rfl (last_src wc _ _) (by intro u hu; simp at hu; subst hu; rfl) (by simp [maxLen]; omega) (by omega) (by simp; omega) ?_; intro v' w' k1 k2 k3; rw [WNH.out, ← NS1.out] at k1; obtain ⟨g', c', rfl⟩ := own_form k1; obtain ⟨X', R'⟩ := (RW2.out.below ((Below.refl _ _).alloc (Nat.le_refl _) _).drew).num k2 k1; have x0 : w'.cell? ⟨w1.heap.size, 1, none⟩ = some vI := (by simp [World.cell?, X']); have x1 : w'.frozen? ⟨w1.heap.size, 1, none⟩ = false := (by simp [World.frozen?, X']); have R3 : Hid _ := R'; clear hi hz hs hy k1 k2 k3 X' R'))
            all_goals
              go_wp2
              refine ⟨⟨k + 1, _, _, by omega, by go_num, R3.out, fun j hj => ?_⟩, by simp [intOf]; omega⟩
              rcases Nat.lt_succ_iff_lt_or_eq.1 hj with h | rfl
              · exact HA.out j h
              · rw [HVK.out]; exact ⟨E.out, M.out⟩
      · have e1 : (vk != kAt ks3 k) = true := by simpa using e
        have e2 : (vk == kAt ks3 k) = false := by simpa using e
        have E : Hid (¬ vk = kAt ks3 k) := e
        clear e
        go_wp2_with fail
        have cy : ∀ x : Sub wr, x.w.cell? (a.add (k * 3)) = some (.int .u8 vk) := fun x => (x.h.cell za).trans d0
        refine wp_region_sub2 (by kernel_rfl) (by kernel_rfl) ?_
        intro cx
        repeat (first | go_big_quiet_skip | (go_big_quiet_want; go_big_quiet_op; first | go_big_quiet_on | (refine ⟨_, fun _ => rfl, ?_⟩; go_big_quiet_on) | go_big_quiet_call (first | (go_at_call 36; exact calls_sub (MayR_of _ _ _ _ O.out.b0 O.out.b1 ⟨O.out.k0, O.out.k1⟩ O.out.s1)))))
        refine wpQuiet_nil ?_
        rintro _ ⟨y, rfl⟩
        have Y : Hid (Below wr.heap.size wr y.w) := y.h
        clear cx cy
        go_wp2
        go_ret2
        exact ⟨fun h => (by rw [← tkB_f hlt (by rw [HVK.out]; exact fun g => E.out g.1)] at h; cases h), fun _ => rfl, HBw.out.trans (Y.out.mono HBw.out.size)⟩
    · have ek : k = 3 := by omega
      subst ek
      obtain ⟨gn, cn, eN, hgn, hsm, An, hAn⟩ := own_names hrw.nm (by decide) rfl
      obtain ⟨gi, ci, eI, hgi, hrb⟩ := own_nums hrw.nt (by decide)
      subst eN eI
      have SAr : Hid (SA wr gn gi 3 nLE (nmL 3 v)) := ⟨hsm, hrb, rfl, by simp [nmL], by decide, fun h => by obtain ⟨r, hr⟩ := hrb; rw [← h, hAn] at hr; simp at hr, lt_of_block hAn⟩
      have s1 := hrw.c1
      have s0 := hrw.c0
      have TK : Hid (tkB ks3 v 3 = true) := (tkB_t HA.out).symm
      have PP : Hid (∀ i, i < 3 → okN (kAt ks3 i) (vN v i)) := okN_of TK.out HO.out
      have BXr : Hid (wr.heap[w1.heap.size]? = some (.cells #[.slice (some ⟨gn, 0, none⟩) 3 cn, .slice (some ⟨gi, 0, none⟩) 3 ci] 71 (0, 0))) := hrw.bx
      have nbi : w1.heap.size ≠ gi := fun h => by obtain ⟨r, hr⟩ := hrb; rw [← h, hrw.bx] at hr; simp at hr
      clear hrw hall hb hsm hrb hAn HR HB
      by_cases c1 : now < 0
      · have HCZ : Hid (clN now = 0) := by show _ = _; unfold clN; rw [if_pos c1]
        have hcb : 0 ≤ (0 : Int) ∧ (0 : Int) ≤ 4611686018427387904 := by omega
        go_wp2_with (go_at_call 37; refine (dsp_4 gn gi cn ci v 0 hcb _ SAr.out PP.out).mono ?_; rintro e w4 ⟨rfl, hws⟩; have WS : Hid (Ws wr w4 gi (nxt 4 0 (nmL 3 v))) := hws; clear hws)
        have NK4 : Hid (VNK w4 gl 3 nLE ks3) := fun i hi => ⟨(World.cell?_of_block (w := wr) (a := ⟨gl, i * 16, none⟩) (WS.out.other gl (by omega) (by omega))).trans (NKr.out i hi).1, (World.cell?_of_block (w := wr) (a := ⟨gl, i * 16 + 3, none⟩) (WS.out.other gl (by omega) (by omega))).trans (NKr.out i hi).2⟩
        have t1 : w4.cell? ⟨w1.heap.size, 1, none⟩ = some (.slice (some ⟨gi, 0, none⟩) 3 ci) := (World.cell?_of_block (w := wr) (a := ⟨w1.heap.size, 1, none⟩) (WS.out.other _ zb nbi)).trans s1
        have zl4 : gl < w4.heap.size := by have := WS.out.size; omega
        have zb4 : w1.heap.size < w4.heap.size := by have := WS.out.size; omega
        have zi4 : gi < w4.heap.size := WS.out.nb.lt
        have B4 : Hid (Below w.heap.size w w4) := HBw.out.trans (WS.out.below (Nat.le_trans HB1.out.size hgi) HBw.out.size)
        have LN : Hid ((nxt 4 0 (nmL 3 v)).length = 3) := by
          show _ = 3
          exact nxt_len3 _ _ _ _ _
        clear s0 s1
        go_loopw [11, 12] (fun vo i wx => ∃ k : Nat, k ≤ 3 ∧ i = .int .i64 k ∧ wx.ownsRow w4.heap.size 34 3 vo k (flV k (vlL ks3 (nxt 4 0 (nmL 3 v)))) ∧ Below w4.heap.size w4 wx) (fun _ i _ => 3 - (intOf i).toNat)
        case atStart => exact ⟨0, Nat.zero_le _, rfl, ⟨rfl, .inl ⟨rfl, rfl⟩⟩, Below.refl _ _⟩
        case round =>
          obtain ⟨q, hq, rfl, hown, hb5⟩ := hrel
          have HO5 : Hid (wr.ownsRow w4.heap.size 34 3 _ q (flV q (vlL ks3 (nxt 4 0 (nmL 3 v))))) := hown
          have HB5 : Hid (Below w4.heap.size w4 wr) := hb5
          have zr5 := hb5.size
          by_cases hq2 : q < 3
          · have r3 := (hb5.cell (p := ⟨gl, q * 16 + 3, none⟩) zl4).trans (NK4.out q hq2).2
            have t5 := (hb5.cell (p := ⟨w1.heap.size, 1, none⟩) zb4).trans t1
            obtain ⟨x, hx⟩ : ∃ x, (nxt 4 0 (nmL 3 v))[q]? = some x := ⟨_, List.getElem?_eq_getElem (by rw [LN.out]; exact hq2)⟩
            have i5 := (hb5.cell (p := ⟨gi, q, none⟩) zi4).trans (WS.out.nb.cell q x hx)
            have VX : Hid (vlL ks3 (nxt 4 0 (nmL 3 v)) q = ⟨kAt ks3 q, x % 18446744073709551616, ⟨#[]⟩⟩) := by show _ = _; unfold vlL; rw [List.getD_eq_getElem?_getD, hx]; rfl
            have WX : Hid (IntKind.u64.wrap x = x % 18446744073709551616) := by show _ = _; rw [IntKind.wrap_u64]
            have zl5 : gl < wr.heap.size := by omega
            have zb5 : w1.heap.size < wr.heap.size := by omega
            have zi5 : gi < wr.heap.size := by omega
            have hq' : (q : Int) < 3 := by omega
            clear hown hb5 hx t1
            go_wp2_with fail
            go_region_law ((rw [if_pos (by rfl)]; obtain ⟨i, hi, hz, hs, hy⟩ := I3.out; refine wp_append_own _ _ _ 30 rfl w4.heap.size 34 i _ 3 32 Tryd.underlying30 hi hz hs hy rfl (by decide) _ q _ rfl (ownsRow_below HO5.out ((Below.refl _ _).alloc (Nat.le_refl _) _).drew) ⟨wr.heap.size, 0, none⟩ 1 1 [.int .u8 (kAt ks3 q), .int .u64 (IntKind.u64.wrap x), .string ⟨#[]⟩] rfl rfl (last_src wr _ _) (by intro u hu; simp at hu; rcases hu with rfl | rfl | rfl <;> rfl) (by simp [maxLen]; omega) (by omega) (by simp; omega) ?_; intro v' w' k1 k2 k3; rw [WX.out] at k1; have H1 : Hid (w'.ownsRow w4.heap.size 34 3 v' (q + 1) (flV (q + 1) (vlL ks3 (nxt 4 0 (nmL 3 v))))) := (by rw [flV_succ, VX.out]; exact k1); have H2 : Hid _ := k2; clear hi hz hs hy k1 k2 k3))
            all_goals
              go_wp2
              exact ⟨⟨q + 1, by omega, by go_num, H1.out, ((HB5.out.alloc zr5 _).drew).grown H2.out (by simp; omega) (fun g e => own_blk HO5.out e)⟩, by simp [intOf]; omega⟩
          · have eq : q = 3 := by omega
            subst eq
            clear hown hb5
            go_wp2
            obtain ⟨g', c', rfl, hg', hr'⟩ := own_row HO5.out (by decide)
            go_ret2
            exact ⟨fun _ => ⟨g', c', rfl, Nat.le_trans B4.out.size hg', by rw [HCZ.out]; exact hr'⟩, fun h => (by rw [TK.out] at h; cases h), B4.out.trans (HB5.out.mono B4.out.size)⟩
      by_cases c2 : 4611686018427387904 < now
      · have HCZ : Hid (clN now = 4611686018427387904) := by show _ = _; unfold clN; rw [if_neg c1, if_pos c2]
        have hcb : 0 ≤ (4611686018427387904 : Int) ∧ (4611686018427387904 : Int) ≤ 4611686018427387904 := by omega
        go_wp2_with (go_at_call 37; refine (dsp_4 gn gi cn ci v 4611686018427387904 hcb _ SAr.out PP.out).mono ?_; rintro e w4 ⟨rfl, hws⟩; have WS : Hid (Ws wr w4 gi (nxt 4 4611686018427387904 (nmL 3 v))) := hws; clear hws)
        have NK4 : Hid (VNK w4 gl 3 nLE ks3) := fun i hi => ⟨(World.cell?_of_block (w := wr) (a := ⟨gl, i * 16, none⟩) (WS.out.other gl (by omega) (by omega))).trans (NKr.out i hi).1, (World.cell?_of_block (w := wr) (a := ⟨gl, i * 16 + 3, none⟩) (WS.out.other gl (by omega) (by omega))).trans (NKr.out i hi).2⟩
        have t1 : w4.cell? ⟨w1.heap.size, 1, none⟩ = some (.slice (some ⟨gi, 0, none⟩) 3 ci) := (World.cell?_of_block (w := wr) (a := ⟨w1.heap.size, 1, none⟩) (WS.out.other _ zb nbi)).trans s1
        have zl4 : gl < w4.heap.size := by have := WS.out.size; omega
        have zb4 : w1.heap.size < w4.heap.size := by have := WS.out.size; omega
        have zi4 : gi < w4.heap.size := WS.out.nb.lt
        have B4 : Hid (Below w.heap.size w w4) := HBw.out.trans (WS.out.below (Nat.le_trans HB1.out.size hgi) HBw.out.size)
        have LN : Hid ((nxt 4 4611686018427387904 (nmL 3 v)).length = 3) := by
          show _ = 3
          exact nxt_len3 _ _ _ _ _
        clear s0 s1
        go_loopw [11, 12] (fun vo i wx => ∃ k : Nat, k ≤ 3 ∧ i = .int .i64 k ∧ wx.ownsRow w4.heap.size 34 3 vo k (flV k (vlL ks3 (nxt 4 4611686018427387904 (nmL 3 v)))) ∧ Below w4.heap.size w4 wx) (fun _ i _ => 3 - (intOf i).toNat)
        case atStart => exact ⟨0, Nat.zero_le _, rfl, ⟨rfl, .inl ⟨rfl, rfl⟩⟩, Below.refl _ _⟩
        case round =>
          obtain ⟨q, hq, rfl, hown, hb5⟩ := hrel
          have HO5 : Hid (wr.ownsRow w4.heap.size 34 3 _ q (flV q (vlL ks3 (nxt 4 4611686018427387904 (nmL 3 v))))) := hown
          have HB5 : Hid (Below w4.heap.size w4 wr) := hb5
          have zr5 := hb5.size
          by_cases hq2 : q < 3
          · have r3 := (hb5.cell (p := ⟨gl, q * 16 + 3, none⟩) zl4).trans (NK4.out q hq2).2
            have t5 := (hb5.cell (p := ⟨w1.heap.size, 1, none⟩) zb4).trans t1
            obtain ⟨x, hx⟩ : ∃ x, (nxt 4 4611686018427387904 (nmL 3 v))[q]? = some x := ⟨_, List.getElem?_eq_getElem (by rw [LN.out]; exact hq2)⟩
            have i5 := (hb5.cell (p := ⟨gi, q, none⟩) zi4).trans (WS.out.nb.cell q x hx)
            have VX : Hid (vlL ks3 (nxt 4 4611686018427387904 (nmL 3 v)) q = ⟨kAt ks3 q, x % 18446744073709551616, ⟨#[]⟩⟩) := by show _ = _; unfold vlL; rw [List.getD_eq_getElem?_getD, hx]; rfl
            have WX : Hid (IntKind.u64.wrap x = x % 18446744073709551616) := by show _ = _; rw [IntKind.wrap_u64]
            have zl5 : gl < wr.heap.size := by omega
            have zb5 : w1.heap.size < wr.heap.size := by omega
            have zi5 : gi < wr.heap.size := by omega
            have hq' : (q : Int) < 3 := by omega
            clear hown hb5 hx t1
            go_wp2_with fail
            go_region_law ((rw [if_pos (by rfl)]; obtain ⟨i, hi, hz, hs, hy⟩ := I3.out; refine wp_append_own _ _ _ 30 rfl w4.heap.size 34 i _ 3 32 Tryd.underlying30 hi hz hs hy rfl (by decide) _ q _ rfl (ownsRow_below HO5.out ((Below.refl _ _).alloc (Nat.le_refl _) _).drew) ⟨wr.heap.size, 0, none⟩ 1 1 [.int .u8 (kAt ks3 q), .int .u64 (IntKind.u64.wrap x), .string ⟨#[]⟩] rfl rfl (last_src wr _ _) (by intro u hu; simp at hu; rcases hu with rfl | rfl | rfl <;> rfl) (by simp [maxLen]; omega) (by omega) (by simp; omega) ?_; intro v' w' k1 k2 k3; rw [WX.out] at k1; have H1 : Hid (w'.ownsRow w4.heap.size 34 3 v' (q + 1) (flV (q + 1) (vlL ks3 (nxt 4 4611686018427387904 (nmL 3 v))))) := (by rw [flV_succ, VX.out]; exact k1); have H2 : Hid _ := k2; clear hi hz hs hy k1 k2 k3))
            all_goals
              go_wp2
              exact ⟨⟨q + 1, by omega, by go_num, H1.out, ((HB5.out.alloc zr5 _).drew).grown H2.out (by simp; omega) (fun g e => own_blk HO5.out e)⟩, by simp [intOf]; omega⟩
          · have eq : q = 3 := by omega
            subst eq
            clear hown hb5
            go_wp2
            obtain ⟨g', c', rfl, hg', hr'⟩ := own_row HO5.out (by decide)
            go_ret2
            exact ⟨fun _ => ⟨g', c', rfl, Nat.le_trans B4.out.size hg', by rw [HCZ.out]; exact hr'⟩, fun h => (by rw [TK.out] at h; cases h), B4.out.trans (HB5.out.mono B4.out.size)⟩
      · have HCZ : Hid (clN now = now) := by show _ = _; unfold clN; rw [if_neg c1, if_neg c2]
        have hcb : 0 ≤ now ∧ now ≤ 4611686018427387904 := by omega
        go_wp2_with (go_at_call 37; refine (dsp_4 gn gi cn ci v now hcb _ SAr.out PP.out).mono ?_; rintro e w4 ⟨rfl, hws⟩; have WS : Hid (Ws wr w4 gi (nxt 4 now (nmL 3 v))) := hws; clear hws)
        have NK4 : Hid (VNK w4 gl 3 nLE ks3) := fun i hi => ⟨(World.cell?_of_block (w := wr) (a := ⟨gl, i * 16, none⟩) (WS.out.other gl (by omega) (by omega))).trans (NKr.out i hi).1, (World.cell?_of_block (w := wr) (a := ⟨gl, i * 16 + 3, none⟩) (WS.out.other gl (by omega) (by omega))).trans (NKr.out i hi).2⟩
        have t1 : w4.cell? ⟨w1.heap.size, 1, none⟩ = some (.slice (some ⟨gi, 0, none⟩) 3 ci) := (World.cell?_of_block (w := wr) (a := ⟨w1.heap.size, 1, none⟩) (WS.out.other _ zb nbi)).trans s1
        have zl4 : gl < w4.heap.size := by have := WS.out.size; omega
        have zb4 : w1.heap.size < w4.heap.size := by have := WS.out.size; omega
        have zi4 : gi < w4.heap.size := WS.out.nb.lt
        have B4 : Hid (Below w.heap.size w w4) := HBw.out.trans (WS.out.below (Nat.le_trans HB1.out.size hgi) HBw.out.size)
        have LN : Hid ((nxt 4 now (nmL 3 v)).length = 3) := by
          show _ = 3
          exact nxt_len3 _ _ _ _ _
        clear s0 s1
        go_loopw [11, 12] (fun vo i wx => ∃ k : Nat, k ≤ 3 ∧ i = .int .i64 k ∧ wx.ownsRow w4.heap.size 34 3 vo k (flV k (vlL ks3 (nxt 4 now (nmL 3 v)))) ∧ Below w4.heap.size w4 wx) (fun _ i _ => 3 - (intOf i).toNat)
        case atStart => exact ⟨0, Nat.zero_le _, rfl, ⟨rfl, .inl ⟨rfl, rfl⟩⟩, Below.refl _ _⟩
        case round =>
          obtain ⟨q, hq, rfl, hown, hb5⟩ := hrel
          have HO5 : Hid (wr.ownsRow w4.heap.size 34 3 _ q (flV q (vlL ks3 (nxt 4 now (nmL 3 v))))) := hown
          have HB5 : Hid (Below w4.heap.size w4 wr) := hb5
          have zr5 := hb5.size
          by_cases hq2 : q < 3
          · have r3 := (hb5.cell (p := ⟨gl, q * 16 + 3, none⟩) zl4).trans (NK4.out q hq2).2
            have t5 := (hb5.cell (p := ⟨w1.heap.size, 1, none⟩) zb4).trans t1
            obtain ⟨x, hx⟩ : ∃ x, (nxt 4 now (nmL 3 v))[q]? = some x := ⟨_, List.getElem?_eq_getElem (by rw [LN.out]; exact hq2)⟩
            have i5 := (hb5.cell (p := ⟨gi, q, none⟩) zi4).trans (WS.out.nb.cell q x hx)
            have VX : Hid (vlL ks3 (nxt 4 now (nmL 3 v)) q = ⟨kAt ks3 q, x % 18446744073709551616, ⟨#[]⟩⟩) := by show _ = _; unfold vlL; rw [List.getD_eq_getElem?_getD, hx]; rfl
            have WX : Hid (IntKind.u64.wrap x = x % 18446744073709551616) := by show _ = _; rw [IntKind.wrap_u64]
            have zl5 : gl < wr.heap.size := by omega
            have zb5 : w1.heap.size < wr.heap.size := by omega
            have zi5 : gi < wr.heap.size := by omega
            have hq' : (q : Int) < 3 := by omega
            clear hown hb5 hx t1
            go_wp2_with fail
            go_region_law ((rw [if_pos (by rfl)]; obtain ⟨i, hi, hz, hs, hy⟩ := I3.out; refine wp_append_own _ _ _ 30 rfl w4.heap.size 34 i _ 3 32 Tryd.underlying30 hi hz hs hy rfl (by decide) _ q _ rfl (ownsRow_below HO5.out ((Below.refl _ _).alloc (Nat.le_refl _) _).drew) ⟨wr.heap.size, 0, none⟩ 1 1 [.int .u8 (kAt ks3 q), .int .u64 (IntKind.u64.wrap x), .string ⟨#[]⟩] rfl rfl (last_src wr _ _) (by intro u hu; simp at hu; rcases hu with rfl | rfl | rfl <;> rfl) (by simp [maxLen]; omega) (by omega) (by simp; omega) ?_; intro v' w' k1 k2 k3; rw [WX.out] at k1; have H1 : Hid (w'.ownsRow w4.heap.size 34 3 v' (q + 1) (flV (q + 1) (vlL ks3 (nxt 4 now (nmL 3 v))))) := (by rw [flV_succ, VX.out]; exact k1); have H2 : Hid _ := k2; clear hi hz hs hy k1 k2 k3))
            all_goals
              go_wp2
              exact ⟨⟨q + 1, by omega, by go_num, H1.out, ((HB5.out.alloc zr5 _).drew).grown H2.out (by simp; omega) (fun g e => own_blk HO5.out e)⟩, by simp [intOf]; omega⟩
          · have eq : q = 3 := by omega
            subst eq
            clear hown hb5
            go_wp2
            obtain ⟨g', c', rfl, hg', hr'⟩ := own_row HO5.out (by decide)
            go_ret2
            exact ⟨fun _ => ⟨g', c', rfl, Nat.le_trans B4.out.size hg', by rw [HCZ.out]; exact hr'⟩, fun h => (by rw [TK.out] at h; cases h), B4.out.trans (HB5.out.mono B4.out.size)⟩
end Go.Proofs.YtjnegbjgogkamaaDoor
