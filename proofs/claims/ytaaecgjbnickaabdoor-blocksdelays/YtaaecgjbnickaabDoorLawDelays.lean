/- BlocksDelays is proved: for every span and every list of ticks the statement's function returns true, and the arguments read as they did; no condition but the table that the card ties. -/
import Derived.Test.YtaaecgjbnickaabDoorBlkN
import Derived.Test.YtaaecgjbnickaabDoorBlkO
import Derived.Deep.DeepCutAuto
import Derived.Deep.RegionHeld3
import Derived.Deep.Light
import Derived.Test.YtaaecgjbnickaabDoorOpenK
import Derived.Test.YtaaecgjbnickaabDoorTie
import Derived.Test.YtaaecgjbnickaabDoorCards
import Derived.ChangeOld
import Derived.ChangeMaps5
import Derived.SevenTiedAt
import Derived.Stop.Joined
namespace Go.Proofs.YtaaecgjbnickaabDoor.LawDelays
set_option linter.unusedVariables false
open Go.RowKit Go.Proofs.YtaaecgjbnickaabDoor Go.ChangeShapes Go.WideShapes Go.ChangeAt Go.Joins
set_option maxRecDepth 20000 in
set_option maxHeartbeats 8000000 in
theorem walk (pt : Int) (ad : Option Addr) (n cap : Nat) (f : Nat → Tk) (w : World) (hpt : -9223372036854775808 ≤ pt ∧ pt < 9223372036854775808) (h0 : ad = none → n = 0 ∧ cap = 0) (hk : TkAt w ad n f) (hn : n * 16 ≤ 140737488351232) (ht : Asc w) :
    Calls Tryd.prog 4 #[.int .i64 pt, .slice ad n cap] w fun e w' => e = .returned (.bool true) ∧ Below w.heap.size w w' := by
  have HK : Hid (TkAt w ad n f) := hk
  have HT : Hid (Asc w) := ht
  have H0 : Hid (ad = none → n = 0 ∧ cap = 0) := h0
  clear hk ht h0
  have I : Hid (∃ i, Tryd.prog.info? 37 = some i ∧ i.zero = some (.agg #[.bool false, .int .i64 0]) ∧ i.size = 2 ∧ i.bytes = 16) := by
    obtain ⟨i, hi, hz⟩ := Option.map_eq_some_iff.1 (show (Tryd.prog.info? 37).map (fun i => (i.zero, i.size, i.bytes)) = some (some (.agg #[.bool false, .int .i64 0]), 2, 16) by kernel_rfl)
    simp only [Prod.mk.injEq] at hz
    exact ⟨i, hi, hz.1, hz.2.1, hz.2.2⟩
  obtain ⟨P, EP, P0, P1⟩ := md_ex pt 1125899906842624 (by omega) (by omega)
  go_enter Tryd.func4, Tryd.ntmps4
  go_wp2_with fail
  refine (Start_9 _ HT.out).mono ?_
  rintro e w0 ⟨g0, c0, rfl, hg0, hr0, hb0⟩
  have HB0 : Hid (Below w.heap.size w w0) := hb0
  have HR0 : Hid (Row3 w0 g0 6 (vlL ksT [0, 0, 0, 0, 0, 0])) := str_vl hr0
  clear hr0 hb0
  go_wp2_with fail
  refine (Start_10 _ (HT.out.below HB0.out)).mono ?_
  rintro e w1 ⟨g1, c1, rfl, hg1, hr1, hb1⟩
  have HB1 : Hid (Below w.heap.size w w1) := HB0.out.trans (hb1.mono HB0.out.size)
  have HR0' : Hid (Row3 w1 g0 6 (vlL ksT [0, 0, 0, 0, 0, 0])) := HR0.out.below hb1
  have HR1 : Hid (Row3 w1 g1 6 (vlL ksT [0, 0, 0, 0, 0, 0])) := str_vl hr1
  have HK1 : Hid (TkAt w1 ad n f) := HK.out.below HB1.out
  clear hr1 hb1 HR0
  go_wp2_with (at_builtin; obtain ⟨i, hi, hz, hs, hy⟩ := I.out; refine wpList_app _ rfl _ _ 34 rfl w1.heap.size 37 i _ 2 16 Tryd.underlying34 hi hz hs hy rfl (by decide) _ 1 [.bool true, .int .i64 0] rfl (own_tick1 w1 _) ad n cap (tkL n f) rfl H0.out (tkL_len n f) (HK1.out.below ((Below.refl _ _).alloc (Nat.le_refl _) _)) (tkL_one n f) (by simp [maxLen]; omega) (by omega) (by simp) ?_; intro v' w2 k1 k2; rw [tkL_cons, Nat.add_comm] at k1; have H1 : Hid (w2.ownsRow w1.heap.size 37 2 v' (n + 1) (tkL (n + 1) (tkC f))) := k1; have H2 : Hid _ := k2; clear k1 k2 hi hz hs hy; obtain ⟨gt, ct, rfl, hgt, htr⟩ := own_ticks H1.out (Nat.succ_pos n); have HTR : Hid (TRow w2 gt (n + 1) (tkC f)) := htr; clear htr)
  have B2 : Hid (Below w1.heap.size w1 w2) := ((Below.refl _ _).alloc (Nat.le_refl _) _).grown H2.out (by simp) (fun k e => by cases e; exact Nat.le_refl _)
  have R2 : Hid (Row3 w2 g1 6 (vlL ksT [0, 0, 0, 0, 0, 0])) := HR1.out.below B2.out
  have R0 : Hid (Row3 w2 g0 6 (vlL ksT [0, 0, 0, 0, 0, 0])) := HR0'.out.below B2.out
  clear H1 H2 HR1 HK1 HR0'
  have zt : gt < w2.heap.size := block_lt_of_cell (HTR.out 0 (Nat.succ_pos n)).1
  go_loopw [5, 6, 7, 8, 9, 10, 24] (fun on off nw rv fv lv i wr => ∃ (k : Nat) (now ro fe : Int) (li was : Bool) (g cc gh ch : Nat) (a0 b0 q1 d1 s1 a1 b1 d2 s2 : Int), k ≤ n + 1 ∧ i = .int .i64 k ∧ nw = .int .i64 now ∧ rv = .int .i64 ro ∧ fv = .int .i64 fe ∧ lv = .bool li ∧ on = .slice (some ⟨g, 0, none⟩) 6 cc ∧ off = .slice (some ⟨gh, 0, none⟩) 6 ch ∧ Row3 wr g 6 (vlL ksT [a0, b0, q1, d1, tN was, s1]) ∧ okL ksT [a0, b0, q1, d1, tN was, s1] ∧ Row3 wr gh 6 (vlL ksT [a1, b1, tN li, d2, tN was, s2]) ∧ okL ksT [a1, b1, tN li, d2, tN was, s2] ∧ 0 ≤ now ∧ now ≤ 2305843009213693952 ∧ (was = true → 0 ≤ ro ∧ ro ≤ now ∧ s1 = ro ∧ fe = -1 ∧ li = true) ∧ (was = false → ro = -1) ∧ (was = false → (k = 0 ∧ fe = -1 ∧ li = false) ∨ (0 ≤ fe ∧ fe ≤ now ∧ (li = true → s2 = fe))) ∧ Below w2.heap.size w2 wr) (fun _ _ _ _ _ _ i _ => n + 1 - (intOf i).toNat)
  case atStart => exact ⟨0, 0, -1, -1, false, false, g0, c0, g1, c1, 0, 0, 0, 0, 0, 0, 0, 0, 0, Nat.zero_le _, rfl, rfl, rfl, rfl, rfl, rfl, rfl, R0.out, okT (.inl rfl) (by omega) (.inl rfl) (by omega) (.inl rfl) (by omega), R2.out, okT (.inl rfl) (by omega) (.inl rfl) (by omega) (.inl rfl) (by omega), by omega, by omega, (fun h => absurd h (by decide)), (fun _ => rfl), (fun _ => Or.inl ⟨rfl, rfl, rfl⟩), Below.refl _ _⟩
  case round =>
    obtain ⟨k, now, ro, fe, li, was, g, cc, gh, ch, a0, b0, q1, d1, s1, a1, b1, d2, s2, hk, rfl, rfl, rfl, rfl, rfl, rfl, rfl, hr, ho, hr2, ho2, n1, n2, j1, j2, j3, hb⟩ := hrel
    have HB : Hid (Below w2.heap.size w2 wr) := hb
    have HR : Hid (Row3 wr g 6 (vlL ksT [a0, b0, q1, d1, tN was, s1])) := hr
    have HO : Hid (okL ksT [a0, b0, q1, d1, tN was, s1]) := ho
    have HRh : Hid (Row3 wr gh 6 (vlL ksT [a1, b1, tN li, d2, tN was, s2])) := hr2
    have HOh : Hid (okL ksT [a1, b1, tN li, d2, tN was, s2]) := ho2
    have J1 : Hid (was = true → 0 ≤ ro ∧ ro ≤ now ∧ s1 = ro ∧ fe = -1 ∧ li = true) := j1
    have J2 : Hid (was = false → ro = -1) := j2
    have J3 : Hid (was = false → (k = 0 ∧ fe = -1 ∧ li = false) ∨ (0 ≤ fe ∧ fe ≤ now ∧ (li = true → s2 = fe))) := j3
    have BW : Hid (Below w.heap.size w wr) := HB1.out.trans ((B2.out.trans (hb.mono B2.out.size)).mono HB1.out.size)
    by_cases hlt : k < n + 1
    · obtain ⟨d0, d9⟩ := HTR.out.below hb k hlt
      have zr := hb.size
      have TK : Hid (k = 0 → (tkC f k).i = true) := fun e => by subst e; rfl
      clear hr ho hr2 ho2 hb j1 j2 j3
      generalize tkC f k = tk at *
      obtain ⟨p, x⟩ := tk
      obtain ⟨q, Eq, q0, qq1⟩ := md_ex x 1099511627776 (by omega) (by omega)
      have hlt' : (k : Int) < n + 1 := by omega
      by_cases hbig : 2305843009213693952 < now + q
      · go_wp2
        go_ret
        exact ⟨rfl, BW.out.alloc BW.out.size _⟩
      · go_wp2_with fail
        have xb : (wr.alloc (.cells #[.bool p, .int .i64 x] 37)).cell? ⟨wr.heap.size, 0, none⟩ = some (.bool p) := by simp
        have HW0 : Hid (Below wr.heap.size wr (wr.alloc (.cells #[.bool p, .int .i64 x] 37))) := below_alloc' _ _
        generalize wr.alloc (.cells #[.bool p, .int .i64 x] 37) = W0 at xb HW0 ⊢
        have zb : wr.heap.size < W0.heap.size := block_lt_of_cell xb
        have BB : Hid (Below W0.heap.size W0 W0) := Below.refl _ _
        have RG : Hid (Row3 W0 g 6 (vlL ksT [a0, b0, q1, d1, tN was, s1])) := HR.out.below HW0.out
        have RH : Hid (Row3 W0 gh 6 (vlL ksT [a1, b1, tN li, d2, tN was, s2])) := HRh.out.below HW0.out
        go_region_held3 (fun w' => w'.cell? ⟨wr.heap.size, 0, none⟩ = some (.bool p)) (go_keep)
          (first | (go_at_call 9; refine (bit_of _ _).mono ?_; rintro e w3 ⟨rfl, hb3⟩; have BB : Hid (Below W0.heap.size W0 w3) := below_step (by first | exact BB.out | exact BB.out.drew) hb3; have xb3 := (BB.out.cell (p := ⟨wr.heap.size, 0, none⟩) zb).trans xb; (try have R5 : Hid (Row3 w3 g5 6 (vlL ksT (nxt 9 (clN (now + q)) [tN p, P, q1, d1, tN was, s1]))) := R5.out.below hb3); clear hb3) | (go_at_call 11; refine (span_of _ _ (by omega)).mono ?_; rintro e w4 ⟨rfl, hb4⟩; have BB : Hid (Below W0.heap.size W0 w4) := below_step (by first | exact BB.out | exact BB.out.drew) hb4; have xb3 := (BB.out.cell (p := ⟨wr.heap.size, 0, none⟩) zb).trans xb; (try have R5 : Hid (Row3 w4 g5 6 (vlL ksT (nxt 9 (clN (now + q)) [tN p, P, q1, d1, tN was, s1]))) := R5.out.below hb4); clear hb4) | (go_at_call_of 7 g; refine (stepT 9 _ ⟨g, 0, none⟩ _ _ _ (tN p) P a0 b0 q1 d1 (tN was) s1 _ (stokT 9 (.inr (.inl rfl)) _) ((RG.out.below BB.out).at.below (below_alloc' _ _)) (inp2 _ ksT (tN p) P 1 14 (tN p) (P % 18446744073709551616) rfl rfl (tN_mod p) rfl) HO.out (tN_01 p) (by omega)).mono ?_; rintro e w5 ⟨g5, rfl, hg5, hr5, hb5⟩; have BB : Hid (Below W0.heap.size W0 w5) := below_step (BB.out.alloc BB.out.size _) hb5; have xb3 := (BB.out.cell (p := ⟨wr.heap.size, 0, none⟩) zb).trans xb; have R5 : Hid (Row3 w5 g5 6 (vlL ksT (nxt 9 (clN (now + q)) [tN p, P, q1, d1, tN was, s1]))) := hr5; clear hr5 hb5) | (go_at_call_of 7 gh; refine (stepT 10 _ ⟨gh, 0, none⟩ _ _ _ (tN p) P a1 b1 (tN li) d2 (tN was) s2 _ (stokT 10 (.inr (.inr rfl)) _) ((RH.out.below BB.out).at.below (below_alloc' _ _)) (inp2 _ ksT (tN p) P 1 14 (tN p) (P % 18446744073709551616) rfl rfl (tN_mod p) rfl) HOh.out (tN_01 p) (by omega)).mono ?_; rintro e w8 ⟨g8, rfl, hg8, hr8, hb8⟩; have R5 : Hid (Row3 w8 g5 6 (vlL ksT (nxt 9 (clN (now + q)) [tN p, P, q1, d1, tN was, s1]))) := (R5.out.below (below_alloc' _ _)).below hb8; have BB : Hid (Below W0.heap.size W0 w8) := below_step (BB.out.alloc BB.out.size _) hb8; have xb3 := (BB.out.cell (p := ⟨wr.heap.size, 0, none⟩) zb).trans xb; have R8 : Hid (Row3 w8 g8 6 (vlL ksT (nxt 10 (clN (now + q)) [tN p, P, tN li, d2, tN was, s2]))) := hr8; clear hr8 hb8))
        have r5 := R5.out
        have r8 := R8.out
        rw [clN_in (by omega)] at r5 r8
        obtain ⟨od, os, oc, oe⟩ := okL_ex HO.out
        obtain ⟨od2, os2, oc2, oe2⟩ := okL_ex HOh.out
        have OKn := okLT 9 (now + q) (tN p) P q1 d1 (tN was) s1 (.inr (.inl rfl)) ⟨by omega, by omega⟩ (tN_01 p) (by omega) oc od oe os
        have OKf := okLT 10 (now + q) (tN p) P (tN li) d2 (tN was) s2 (.inr (.inr rfl)) ⟨by omega, by omega⟩ (tN_01 p) (by omega) oc2 od2 oe2 os2
        obtain ⟨d1', s1', N1, S1⟩ := ton_next (now + q) P q1 d1 s1 ro p was P0 (by omega) (fun h => by have := J1.out h; omega)
        obtain ⟨d2', s2', N2, S2⟩ := tof_next (now + q) P d2 s2 fe li p was P0 (by omega) (fun h => (J1.out h).2.2.2.2) (fun h hl => by
          rcases J3.out h with ⟨_, _, e⟩ | ⟨e1, e2, e3⟩
          · rw [e] at hl; cases hl
          · exact ⟨e1, by omega, e3 hl⟩)
        rw [N1] at r5 OKn
        rw [N2] at r8 OKf
        have HRn : Hid (Row3 w8 g5 6 (vlL ksT [tN p, P, tN (p && decide (P ≤ now + q - roN ro (now + q) p was)), d1', tN p, s1'])) := r5
        have HOn : Hid (okL ksT [tN p, P, tN (p && decide (P ≤ now + q - roN ro (now + q) p was)), d1', tN p, s1']) := OKn
        have HRf : Hid (Row3 w8 g8 6 (vlL ksT [tN p, P, tN (liN li fe (now + q) P p was), d2', tN p, s2'])) := r8
        have HOf : Hid (okL ksT [tN p, P, tN (liN li fe (now + q) P p was), d2', tN p, s2']) := OKf
        have T1 : Hid (p = true → 0 ≤ roN ro (now + q) p was ∧ roN ro (now + q) p was ≤ now + q ∧ s1' = roN ro (now + q) p was) := S1
        have T2 : Hid (p = false → liN li fe (now + q) P p was = true → s2' = feN fe (now + q) p was) := S2
        obtain ⟨v0, o1, v2⟩ := r5.val 2 6 (by decide) rfl
        obtain ⟨v3, o4, v5⟩ := r8.val 2 6 (by decide) rfl
        have v0' : w8.cell? ⟨g5, 6, none⟩ = some (.int .u8 1) := v0
        have v1 : w8.cell? ⟨g5, 7, none⟩ = some (.int .u64 (tN (p && decide (P ≤ now + q - roN ro (now + q) p was)))) := by rw [o1]; show some (Value.int _ (tN _ % _)) = _; rw [tN_mod]
        have v2' : w8.cell? ⟨g5, 8, none⟩ = some (.string ⟨#[]⟩) := v2
        have v3' : w8.cell? ⟨g8, 6, none⟩ = some (.int .u8 1) := v3
        have v4 : w8.cell? ⟨g8, 7, none⟩ = some (.int .u64 (tN (liN li fe (now + q) P p was))) := by rw [o4]; show some (Value.int _ (tN _ % _)) = _; rw [tN_mod]
        have v5' : w8.cell? ⟨g8, 8, none⟩ = some (.string ⟨#[]⟩) := v5
        have z5 : g5 < w8.heap.size := block_lt_of_cell v0
        have z8 : g8 < w8.heap.size := block_lt_of_cell v3
        have B8 : Hid (Below wr.heap.size wr w8) := HW0.out.trans (BB.out.mono HW0.out.size)
        have x8 : w8.cell? ⟨wr.heap.size, 0, none⟩ = some (.bool p) := (BB.out.cell (p := ⟨wr.heap.size, 0, none⟩) zb).trans xb
        have zx : wr.heap.size < w8.heap.size := block_lt_of_cell x8
        clear r5 r8 OKn OKf N1 N2 S1 S2 R5 R8 RG RH BB v0 v2 v3 v5 o1 o4 od os oc oe od2 os2 oc2 oe2 HR HRh HO HOh xb d0 d9
        have sn := sl_nil ⟨g5, 0, none⟩ 6 6
        have sn2 := sl_nil ⟨g8, 0, none⟩ 6 6
        have nv := neqI
        cases p
        · cases was
          · have hro := J2.out rfl
            obtain ⟨f0, f1, f2⟩ : 0 ≤ fe ∧ fe ≤ now ∧ (li = true → s2 = fe) := by
              rcases J3.out rfl with ⟨e, _, _⟩ | h
              · exact absurd (TK.out e) (by decide)
              · exact h
            clear f2
            by_cases cA : P ≤ now + q - fe
            · cases li
              · have EY : (false && decide (P ≤ now + q - roN ro (now + q) false false)) = false := rfl
                have EZ : liN false fe (now + q) P false false = false := by simp [liN, feN, cA]
                rw [EY] at v1
                rw [EZ] at v4
                have H1 : Hid (Row3 w8 g5 6 (vlL ksT [tN false, P, tN false, d1', tN false, s1'])) := by have := HRn.out; rw [EY] at this; exact this
                have H2 : Hid (okL ksT [tN false, P, tN false, d1', tN false, s1']) := by have := HOn.out; rw [EY] at this; exact this
                have H3 : Hid (Row3 w8 g8 6 (vlL ksT [tN false, P, tN false, d2', tN false, s2'])) := by have := HRf.out; rw [EZ] at this; exact this
                have H4 : Hid (okL ksT [tN false, P, tN false, d2', tN false, s2']) := by have := HOf.out; rw [EZ] at this; exact this
                clear EY EZ HRn HOn HRf HOf
                go_wp2_with fail
                refine wp_region_sub2 (by kernel_rfl) (by kernel_rfl) ?_
                intro cx
                repeat (first | go_big_quiet_skip | (go_big_quiet_want; go_big_quiet_op; first | go_big_quiet_on | (refine ⟨_, fun _ => rfl, ?_⟩; go_big_quiet_on) | go_big_quiet_call (first | (go_at_call 9; exact calls_sub (bit_of _ _)))))
                refine wpQuiet_nil ?_
                rintro _ ⟨y, rfl⟩
                clear cx
                have BY : Hid (Below w8.heap.size w8 y.w) := y.h
                go_wp2
                exact ⟨⟨k + 1, now + q, -1, fe, false, false, g5, 6, g8, 6, tN false, P, tN false, d1', s1', tN false, P, d2', s2', by omega, by go_num, rfl, rfl, rfl, rfl, rfl, rfl, H1.out.below BY.out, H2.out, H3.out.below BY.out, H4.out, by omega, by omega, (fun h => absurd h (by decide)), (fun _ => rfl), (fun _ => Or.inr ⟨by omega, by omega, fun h => absurd h (by decide)⟩), (HB.out.trans (B8.out.mono HB.out.size)).trans (BY.out.mono (Nat.le_trans HB.out.size B8.out.size))⟩, by simp [intOf]; omega⟩
              · have EY : (false && decide (P ≤ now + q - roN ro (now + q) false false)) = false := rfl
                have EZ : liN true fe (now + q) P false false = false := by simp [liN, feN, cA]
                rw [EY] at v1
                rw [EZ] at v4
                have H1 : Hid (Row3 w8 g5 6 (vlL ksT [tN false, P, tN false, d1', tN false, s1'])) := by have := HRn.out; rw [EY] at this; exact this
                have H2 : Hid (okL ksT [tN false, P, tN false, d1', tN false, s1']) := by have := HOn.out; rw [EY] at this; exact this
                have H3 : Hid (Row3 w8 g8 6 (vlL ksT [tN false, P, tN false, d2', tN false, s2'])) := by have := HRf.out; rw [EZ] at this; exact this
                have H4 : Hid (okL ksT [tN false, P, tN false, d2', tN false, s2']) := by have := HOf.out; rw [EZ] at this; exact this
                clear EY EZ HRn HOn HRf HOf
                go_wp2_with fail
                refine wp_region_sub2 (by kernel_rfl) (by kernel_rfl) ?_
                intro cx
                repeat (first | go_big_quiet_skip | (go_big_quiet_want; go_big_quiet_op; first | go_big_quiet_on | (refine ⟨_, fun _ => rfl, ?_⟩; go_big_quiet_on) | go_big_quiet_call (first | (go_at_call 9; exact calls_sub (bit_of _ _)))))
                refine wpQuiet_nil ?_
                rintro _ ⟨y, rfl⟩
                clear cx
                have BY : Hid (Below w8.heap.size w8 y.w) := y.h
                go_wp2
                exact ⟨⟨k + 1, now + q, -1, fe, false, false, g5, 6, g8, 6, tN false, P, tN false, d1', s1', tN false, P, d2', s2', by omega, by go_num, rfl, rfl, rfl, rfl, rfl, rfl, H1.out.below BY.out, H2.out, H3.out.below BY.out, H4.out, by omega, by omega, (fun h => absurd h (by decide)), (fun _ => rfl), (fun _ => Or.inr ⟨by omega, by omega, fun h => absurd h (by decide)⟩), (HB.out.trans (B8.out.mono HB.out.size)).trans (BY.out.mono (Nat.le_trans HB.out.size B8.out.size))⟩, by simp [intOf]; omega⟩
            · cases li
              · have EY : (false && decide (P ≤ now + q - roN ro (now + q) false false)) = false := rfl
                have EZ : liN false fe (now + q) P false false = false := by simp [liN, feN, cA]
                rw [EY] at v1
                rw [EZ] at v4
                have H1 : Hid (Row3 w8 g5 6 (vlL ksT [tN false, P, tN false, d1', tN false, s1'])) := by have := HRn.out; rw [EY] at this; exact this
                have H2 : Hid (okL ksT [tN false, P, tN false, d1', tN false, s1']) := by have := HOn.out; rw [EY] at this; exact this
                have H3 : Hid (Row3 w8 g8 6 (vlL ksT [tN false, P, tN false, d2', tN false, s2'])) := by have := HRf.out; rw [EZ] at this; exact this
                have H4 : Hid (okL ksT [tN false, P, tN false, d2', tN false, s2']) := by have := HOf.out; rw [EZ] at this; exact this
                clear EY EZ HRn HOn HRf HOf
                go_wp2_with fail
                refine wp_region_sub2 (by kernel_rfl) (by kernel_rfl) ?_
                intro cx
                repeat (first | go_big_quiet_skip | (go_big_quiet_want; go_big_quiet_op; first | go_big_quiet_on | (refine ⟨_, fun _ => rfl, ?_⟩; go_big_quiet_on) | go_big_quiet_call (first | (go_at_call 9; exact calls_sub (bit_of _ _)))))
                refine wpQuiet_nil ?_
                rintro _ ⟨y, rfl⟩
                clear cx
                have BY : Hid (Below w8.heap.size w8 y.w) := y.h
                go_wp2
                exact ⟨⟨k + 1, now + q, -1, fe, false, false, g5, 6, g8, 6, tN false, P, tN false, d1', s1', tN false, P, d2', s2', by omega, by go_num, rfl, rfl, rfl, rfl, rfl, rfl, H1.out.below BY.out, H2.out, H3.out.below BY.out, H4.out, by omega, by omega, (fun h => absurd h (by decide)), (fun _ => rfl), (fun _ => Or.inr ⟨by omega, by omega, fun h => absurd h (by decide)⟩), (HB.out.trans (B8.out.mono HB.out.size)).trans (BY.out.mono (Nat.le_trans HB.out.size B8.out.size))⟩, by simp [intOf]; omega⟩
              · have EY : (false && decide (P ≤ now + q - roN ro (now + q) false false)) = false := rfl
                have EZ : liN true fe (now + q) P false false = true := by simp [liN, feN, cA]
                rw [EY] at v1
                rw [EZ] at v4
                have H1 : Hid (Row3 w8 g5 6 (vlL ksT [tN false, P, tN false, d1', tN false, s1'])) := by have := HRn.out; rw [EY] at this; exact this
                have H2 : Hid (okL ksT [tN false, P, tN false, d1', tN false, s1']) := by have := HOn.out; rw [EY] at this; exact this
                have H3 : Hid (Row3 w8 g8 6 (vlL ksT [tN false, P, tN true, d2', tN false, s2'])) := by have := HRf.out; rw [EZ] at this; exact this
                have H4 : Hid (okL ksT [tN false, P, tN true, d2', tN false, s2']) := by have := HOf.out; rw [EZ] at this; exact this
                clear EY EZ HRn HOn HRf HOf
                go_wp2_with fail
                refine wp_region_sub2 (by kernel_rfl) (by kernel_rfl) ?_
                intro cx
                repeat (first | go_big_quiet_skip | (go_big_quiet_want; go_big_quiet_op; first | go_big_quiet_on | (refine ⟨_, fun _ => rfl, ?_⟩; go_big_quiet_on) | go_big_quiet_call (first | (go_at_call 9; exact calls_sub (bit_of _ _)))))
                refine wpQuiet_nil ?_
                rintro _ ⟨y, rfl⟩
                clear cx
                have BY : Hid (Below w8.heap.size w8 y.w) := y.h
                go_wp2
                exact ⟨⟨k + 1, now + q, -1, fe, true, false, g5, 6, g8, 6, tN false, P, tN false, d1', s1', tN false, P, d2', s2', by omega, by go_num, rfl, rfl, rfl, rfl, rfl, rfl, H1.out.below BY.out, H2.out, H3.out.below BY.out, H4.out, by omega, by omega, (fun h => absurd h (by decide)), (fun _ => rfl), (fun _ => Or.inr ⟨by omega, by omega, fun h => (T2.out (by trivial) (by simp [liN, feN, cA])).trans rfl⟩), (HB.out.trans (B8.out.mono HB.out.size)).trans (BY.out.mono (Nat.le_trans HB.out.size B8.out.size))⟩, by simp [intOf]; omega⟩
          · obtain ⟨ro0, ro1, ro2, hfe, lt⟩ := J1.out rfl
            subst hfe lt
            by_cases cA : P ≤ 0
            · have EY : (false && decide (P ≤ now + q - roN ro (now + q) false true)) = false := rfl
              have EZ : liN true (-1) (now + q) P false true = false := by simp [liN, feN, cA]
              rw [EY] at v1
              rw [EZ] at v4
              have H1 : Hid (Row3 w8 g5 6 (vlL ksT [tN false, P, tN false, d1', tN false, s1'])) := by have := HRn.out; rw [EY] at this; exact this
              have H2 : Hid (okL ksT [tN false, P, tN false, d1', tN false, s1']) := by have := HOn.out; rw [EY] at this; exact this
              have H3 : Hid (Row3 w8 g8 6 (vlL ksT [tN false, P, tN false, d2', tN false, s2'])) := by have := HRf.out; rw [EZ] at this; exact this
              have H4 : Hid (okL ksT [tN false, P, tN false, d2', tN false, s2']) := by have := HOf.out; rw [EZ] at this; exact this
              clear EY EZ HRn HOn HRf HOf
              go_wp2_with fail
              refine wp_region_sub2 (by kernel_rfl) (by kernel_rfl) ?_
              intro cx
              repeat (first | go_big_quiet_skip | (go_big_quiet_want; go_big_quiet_op; first | go_big_quiet_on | (refine ⟨_, fun _ => rfl, ?_⟩; go_big_quiet_on) | go_big_quiet_call (first | (go_at_call 9; exact calls_sub (bit_of _ _)))))
              refine wpQuiet_nil ?_
              rintro _ ⟨y, rfl⟩
              clear cx
              have BY : Hid (Below w8.heap.size w8 y.w) := y.h
              go_wp2
              exact ⟨⟨k + 1, now + q, -1, now + q, false, false, g5, 6, g8, 6, tN false, P, tN false, d1', s1', tN false, P, d2', s2', by omega, by go_num, rfl, rfl, rfl, rfl, rfl, rfl, H1.out.below BY.out, H2.out, H3.out.below BY.out, H4.out, by omega, by omega, (fun h => absurd h (by decide)), (fun _ => rfl), (fun _ => Or.inr ⟨by omega, by omega, fun h => absurd h (by decide)⟩), (HB.out.trans (B8.out.mono HB.out.size)).trans (BY.out.mono (Nat.le_trans HB.out.size B8.out.size))⟩, by simp [intOf]; omega⟩
            · have EY : (false && decide (P ≤ now + q - roN ro (now + q) false true)) = false := rfl
              have EZ : liN true (-1) (now + q) P false true = true := by simp [liN, feN, cA]
              rw [EY] at v1
              rw [EZ] at v4
              have H1 : Hid (Row3 w8 g5 6 (vlL ksT [tN false, P, tN false, d1', tN false, s1'])) := by have := HRn.out; rw [EY] at this; exact this
              have H2 : Hid (okL ksT [tN false, P, tN false, d1', tN false, s1']) := by have := HOn.out; rw [EY] at this; exact this
              have H3 : Hid (Row3 w8 g8 6 (vlL ksT [tN false, P, tN true, d2', tN false, s2'])) := by have := HRf.out; rw [EZ] at this; exact this
              have H4 : Hid (okL ksT [tN false, P, tN true, d2', tN false, s2']) := by have := HOf.out; rw [EZ] at this; exact this
              clear EY EZ HRn HOn HRf HOf
              go_wp2_with fail
              refine wp_region_sub2 (by kernel_rfl) (by kernel_rfl) ?_
              intro cx
              repeat (first | go_big_quiet_skip | (go_big_quiet_want; go_big_quiet_op; first | go_big_quiet_on | (refine ⟨_, fun _ => rfl, ?_⟩; go_big_quiet_on) | go_big_quiet_call (first | (go_at_call 9; exact calls_sub (bit_of _ _)))))
              refine wpQuiet_nil ?_
              rintro _ ⟨y, rfl⟩
              clear cx
              have BY : Hid (Below w8.heap.size w8 y.w) := y.h
              go_wp2
              exact ⟨⟨k + 1, now + q, -1, now + q, true, false, g5, 6, g8, 6, tN false, P, tN false, d1', s1', tN false, P, d2', s2', by omega, by go_num, rfl, rfl, rfl, rfl, rfl, rfl, H1.out.below BY.out, H2.out, H3.out.below BY.out, H4.out, by omega, by omega, (fun h => absurd h (by decide)), (fun _ => rfl), (fun _ => Or.inr ⟨by omega, by omega, fun h => (T2.out (by trivial) (by simp [liN, feN, cA])).trans rfl⟩), (HB.out.trans (B8.out.mono HB.out.size)).trans (BY.out.mono (Nat.le_trans HB.out.size B8.out.size))⟩, by simp [intOf]; omega⟩
        · cases was
          · have hro := J2.out rfl
            by_cases cA : P ≤ 0
            · have EY : (true && decide (P ≤ now + q - roN ro (now + q) true false)) = true := by simp [roN, cA]
              have EZ : liN li fe (now + q) P true false = true := rfl
              rw [EY] at v1
              rw [EZ] at v4
              have H1 : Hid (Row3 w8 g5 6 (vlL ksT [tN true, P, tN true, d1', tN true, s1'])) := by have := HRn.out; rw [EY] at this; exact this
              have H2 : Hid (okL ksT [tN true, P, tN true, d1', tN true, s1']) := by have := HOn.out; rw [EY] at this; exact this
              have H3 : Hid (Row3 w8 g8 6 (vlL ksT [tN true, P, tN true, d2', tN true, s2'])) := by have := HRf.out; rw [EZ] at this; exact this
              have H4 : Hid (okL ksT [tN true, P, tN true, d2', tN true, s2']) := by have := HOf.out; rw [EZ] at this; exact this
              clear EY EZ HRn HOn HRf HOf
              have dA : decide (P ≤ 0) = true := dec_t cA
              go_wp2_with fail
              refine wp_region_sub2 (by kernel_rfl) (by kernel_rfl) ?_
              intro cx
              repeat (first | go_big_quiet_skip | (go_big_quiet_want; go_big_quiet_op; first | go_big_quiet_on | (refine ⟨_, fun _ => rfl, ?_⟩; go_big_quiet_on) | go_big_quiet_call (first | (go_at_call 9; exact calls_sub (bit_of _ _)))))
              refine wpQuiet_nil ?_
              rintro _ ⟨y, rfl⟩
              clear cx
              have BY : Hid (Below w8.heap.size w8 y.w) := y.h
              go_wp2
              exact ⟨⟨k + 1, now + q, now + q, -1, true, true, g5, 6, g8, 6, tN true, P, tN true, d1', s1', tN true, P, d2', s2', by omega, by go_num, rfl, rfl, rfl, rfl, rfl, rfl, H1.out.below BY.out, H2.out, H3.out.below BY.out, H4.out, by omega, by omega, (fun _ => ⟨by omega, by omega, ((T1.out (by trivial)).2.2).trans rfl, rfl, rfl⟩), (fun h => absurd h (by decide)), (fun h => absurd h (by decide)), (HB.out.trans (B8.out.mono HB.out.size)).trans (BY.out.mono (Nat.le_trans HB.out.size B8.out.size))⟩, by simp [intOf]; omega⟩
            · have EY : (true && decide (P ≤ now + q - roN ro (now + q) true false)) = false := by simp [roN, cA]
              have EZ : liN li fe (now + q) P true false = true := rfl
              rw [EY] at v1
              rw [EZ] at v4
              have H1 : Hid (Row3 w8 g5 6 (vlL ksT [tN true, P, tN false, d1', tN true, s1'])) := by have := HRn.out; rw [EY] at this; exact this
              have H2 : Hid (okL ksT [tN true, P, tN false, d1', tN true, s1']) := by have := HOn.out; rw [EY] at this; exact this
              have H3 : Hid (Row3 w8 g8 6 (vlL ksT [tN true, P, tN true, d2', tN true, s2'])) := by have := HRf.out; rw [EZ] at this; exact this
              have H4 : Hid (okL ksT [tN true, P, tN true, d2', tN true, s2']) := by have := HOf.out; rw [EZ] at this; exact this
              clear EY EZ HRn HOn HRf HOf
              have dA : decide (P ≤ 0) = false := dec_f cA
              go_wp2_with fail
              refine wp_region_sub2 (by kernel_rfl) (by kernel_rfl) ?_
              intro cx
              repeat (first | go_big_quiet_skip | (go_big_quiet_want; go_big_quiet_op; first | go_big_quiet_on | (refine ⟨_, fun _ => rfl, ?_⟩; go_big_quiet_on) | go_big_quiet_call (first | (go_at_call 9; exact calls_sub (bit_of _ _)))))
              refine wpQuiet_nil ?_
              rintro _ ⟨y, rfl⟩
              clear cx
              have BY : Hid (Below w8.heap.size w8 y.w) := y.h
              go_wp2
              exact ⟨⟨k + 1, now + q, now + q, -1, true, true, g5, 6, g8, 6, tN true, P, tN false, d1', s1', tN true, P, d2', s2', by omega, by go_num, rfl, rfl, rfl, rfl, rfl, rfl, H1.out.below BY.out, H2.out, H3.out.below BY.out, H4.out, by omega, by omega, (fun _ => ⟨by omega, by omega, ((T1.out (by trivial)).2.2).trans rfl, rfl, rfl⟩), (fun h => absurd h (by decide)), (fun h => absurd h (by decide)), (HB.out.trans (B8.out.mono HB.out.size)).trans (BY.out.mono (Nat.le_trans HB.out.size B8.out.size))⟩, by simp [intOf]; omega⟩
          · obtain ⟨ro0, ro1, ro2, hfe, lt⟩ := J1.out rfl
            subst hfe lt
            by_cases cA : P ≤ now + q - ro
            · have EY : (true && decide (P ≤ now + q - roN ro (now + q) true true)) = true := by simp [roN, cA]
              have EZ : liN true (-1) (now + q) P true true = true := rfl
              rw [EY] at v1
              rw [EZ] at v4
              have H1 : Hid (Row3 w8 g5 6 (vlL ksT [tN true, P, tN true, d1', tN true, s1'])) := by have := HRn.out; rw [EY] at this; exact this
              have H2 : Hid (okL ksT [tN true, P, tN true, d1', tN true, s1']) := by have := HOn.out; rw [EY] at this; exact this
              have H3 : Hid (Row3 w8 g8 6 (vlL ksT [tN true, P, tN true, d2', tN true, s2'])) := by have := HRf.out; rw [EZ] at this; exact this
              have H4 : Hid (okL ksT [tN true, P, tN true, d2', tN true, s2']) := by have := HOf.out; rw [EZ] at this; exact this
              clear EY EZ HRn HOn HRf HOf
              have dA : decide (P ≤ now + q - ro) = true := dec_t cA
              go_wp2_with fail
              refine wp_region_sub2 (by kernel_rfl) (by kernel_rfl) ?_
              intro cx
              repeat (first | go_big_quiet_skip | (go_big_quiet_want; go_big_quiet_op; first | go_big_quiet_on | (refine ⟨_, fun _ => rfl, ?_⟩; go_big_quiet_on) | go_big_quiet_call (first | (go_at_call 9; exact calls_sub (bit_of _ _)))))
              refine wpQuiet_nil ?_
              rintro _ ⟨y, rfl⟩
              clear cx
              have BY : Hid (Below w8.heap.size w8 y.w) := y.h
              go_wp2
              exact ⟨⟨k + 1, now + q, ro, -1, true, true, g5, 6, g8, 6, tN true, P, tN true, d1', s1', tN true, P, d2', s2', by omega, by go_num, rfl, rfl, rfl, rfl, rfl, rfl, H1.out.below BY.out, H2.out, H3.out.below BY.out, H4.out, by omega, by omega, (fun _ => ⟨ro0, by omega, ((T1.out (by trivial)).2.2).trans rfl, rfl, rfl⟩), (fun h => absurd h (by decide)), (fun h => absurd h (by decide)), (HB.out.trans (B8.out.mono HB.out.size)).trans (BY.out.mono (Nat.le_trans HB.out.size B8.out.size))⟩, by simp [intOf]; omega⟩
            · have EY : (true && decide (P ≤ now + q - roN ro (now + q) true true)) = false := by simp [roN, cA]
              have EZ : liN true (-1) (now + q) P true true = true := rfl
              rw [EY] at v1
              rw [EZ] at v4
              have H1 : Hid (Row3 w8 g5 6 (vlL ksT [tN true, P, tN false, d1', tN true, s1'])) := by have := HRn.out; rw [EY] at this; exact this
              have H2 : Hid (okL ksT [tN true, P, tN false, d1', tN true, s1']) := by have := HOn.out; rw [EY] at this; exact this
              have H3 : Hid (Row3 w8 g8 6 (vlL ksT [tN true, P, tN true, d2', tN true, s2'])) := by have := HRf.out; rw [EZ] at this; exact this
              have H4 : Hid (okL ksT [tN true, P, tN true, d2', tN true, s2']) := by have := HOf.out; rw [EZ] at this; exact this
              clear EY EZ HRn HOn HRf HOf
              have dA : decide (P ≤ now + q - ro) = false := dec_f cA
              go_wp2_with fail
              refine wp_region_sub2 (by kernel_rfl) (by kernel_rfl) ?_
              intro cx
              repeat (first | go_big_quiet_skip | (go_big_quiet_want; go_big_quiet_op; first | go_big_quiet_on | (refine ⟨_, fun _ => rfl, ?_⟩; go_big_quiet_on) | go_big_quiet_call (first | (go_at_call 9; exact calls_sub (bit_of _ _)))))
              refine wpQuiet_nil ?_
              rintro _ ⟨y, rfl⟩
              clear cx
              have BY : Hid (Below w8.heap.size w8 y.w) := y.h
              go_wp2
              exact ⟨⟨k + 1, now + q, ro, -1, true, true, g5, 6, g8, 6, tN true, P, tN false, d1', s1', tN true, P, d2', s2', by omega, by go_num, rfl, rfl, rfl, rfl, rfl, rfl, H1.out.below BY.out, H2.out, H3.out.below BY.out, H4.out, by omega, by omega, (fun _ => ⟨ro0, by omega, ((T1.out (by trivial)).2.2).trans rfl, rfl, rfl⟩), (fun h => absurd h (by decide)), (fun h => absurd h (by decide)), (HB.out.trans (B8.out.mono HB.out.size)).trans (BY.out.mono (Nat.le_trans HB.out.size B8.out.size))⟩, by simp [intOf]; omega⟩
    · have ek : k = n + 1 := by omega
      clear hr ho hr2 ho2 hb j1 j2 j3
      go_wp2
      go_ret
      exact ⟨rfl, BW.out⟩

theorem own : ownKnob Tryd.prog.godebug = none := by kernel_rfl
theorem laidOut : laidOutB Tryd.prog = true := by kernel_rfl
set_option maxRecDepth 100000 in
theorem lifted (os : Os) (started : os.Started) (H : Type) (enc : TypeId × Value → H) :
    ReturnsInHanded {} Tryd.checked os 4 .any (fun w args => (Rows.blocksDelaysSpec.pre enc Tryd.prog Tryd.f4 [] false w args ∧ laidMetH Tryd.prog Rows.blocksDelaysRow.laid w) ∧ sizedMet enc Tryd.prog Tryd.f4 (OpenSpec.ofChange Rows.blocksDelaysSpec) false w args)
      (Rows.blocksDelaysSpec.post enc Tryd.prog Tryd.f4 false true false false) := by
  refine returnsInHanded_of_change_and (C := Tryd.checked) (X := fun w _ => laidMetH Tryd.prog Rows.blocksDelaysRow.laid w) (fun _ _ _ hh h => h.of_heap hh) own started (by kernel_rfl) Tryd.func4
    (ChangeSpec.witness_shaped (enc := enc) (C := Tryd.checked) (os := os) (X := fun w _ => laidMetH Tryd.prog Rows.blocksDelaysRow.laid w) false (World.laidAll Tryd.prog os Rows.blocksDelaysRow.laid) #[.int .i64 0, .slice none 0 0] 8 (World.laidAll_os _ _ _)
      (World.shaped_of_ZipB (by kernel_rfl) (by kernel_rfl)) (by kernel_rfl) (by kernel_rfl) (by kernel_rfl)
      (by rw [MakeChecks.laidMetH_plain _ _ _ (by kernel_rfl)]; exact laidMet_laidAll _ (by kernel_rfl) (by kernel_rfl))) ?_
  intro W base args ds gs before hval0 hW _ hsz0 hL _
  have hval : ∀ (j : Nat) t v, Tryd.f4.params[j]? = some t → args[j]? = some v → Value.okWide Tryd.prog W .any base t v := hval0
  have hW' := hW
  obtain ⟨p, q, hA0, hV, rfl, hfz, hnd⟩ := hW
  have hA : DataW.TrodAll enc Tryd.prog W 0 (fun _ => true) true Tryd.f4.params.toList args.toList ds p := hA0
  have hsz : (DataW.weightsEach Tryd.prog (Tryd.f4.params.toList ++ Rows.blocksDelaysSpec.plain.varTypes Tryd.prog) (ds ++ gs)).all (· ≤ reachBytes) = true := hsz0
  rw [Tryd.params4] at hA hval hsz
  obtain ⟨v0, vs0, d0, ds0, p0, q0, hargs, rfl, rfl, h0, r0⟩ := trodAll_cons hA
  obtain ⟨v1, vs1, d1, ds1, p1, q1, rfl, rfl, rfl, h1, r1⟩ := trodAll_cons r0
  obtain ⟨rfl, rfl, rfl⟩ := trodAll_nil r1
  obtain rfl : args = #[v0, v1] := by cases args; simp_all
  obtain ⟨rfl, rfl⟩ := trodVars_none hV
  obtain ⟨pt, rfl, rfl, rfl, wpt⟩ := open_int Tryd.underlying3 (hval 0 3 v0 rfl rfl) h0
  have bpt := bounds_i64 wpt
  have k1 := h1
  have lt1 : ∀ x ∈ p1, x.block < W.heap.size := by obtain ⟨m, hm⟩ := k1; exact DataW.trod_lt m _ _ _ hm
  obtain ⟨ad, n, cap, f, rfl, zad, tf, sn⟩ := open_ticks (hval 1 34 v1 rfl rfl) h1
  have ln : n * 16 ≤ 140737488351232 := by
    rcases sn with rfl | ⟨el, sp, e, hl⟩
    · omega
    · have := sized_slice hsz (j := 1) (t := 34) (e := 37) rfl (by rw [e]; rfl) Tryd.underlying34
      rw [show Tryd.prog.bytesOf 37 = 16 by kernel_rfl, hl] at this
      simp only [reachBytes] at this
      omega
  have hT := asc_of hL
  clear hA0 hval0 hL
  refine (walk pt ad n cap f W (by omega) zad tf ln hT).mono fun e W' ⟨he, bel⟩ => ?_
  subst he
  exact ⟨_, rfl, _, _, _, [], _, [], hW', trodAll_mk1 (shut_bool Tryd.underlying4 _), (trodAll_cons_mk (shut_int Tryd.underlying3 wpt) (trodAll_cons_mk (Below.trod laidOut (by kernel_rfl) (of_decide_eq_true (by kernel_rfl)) k1 bel lt1) trodAll_mk0)), rfl, bel.frame _, fun h => by cases h⟩
theorem row_holds : Rows.BlocksDelaysSaid :=
  OpenClaim.holds_of_wide 4 Tryd.f4 rfl rfl rfl rfl rfl rfl rfl ⟨rfl, rfl, rfl, rfl, rfl⟩ rfl rfl rfl rfl rfl (by kernel_rfl) Tryd.func4 (by kernel_rfl)
    (of_decide_eq_true (by kernel_rfl)) (by unfold Func.isWrapper; first | (rw [if_pos (by decide +kernel)]; kernel_rfl) | (rw [if_neg (by decide +kernel)]; exact ⟨rfl, rfl⟩))
    (fun os started H enc _ => lifted os started H enc)
end Go.Proofs.YtaaecgjbnickaabDoor.LawDelays
namespace Go.Proofs.YtaaecgjbnickaabDoor
/-- THE STATEMENT, ITS TABLES TIED TO THE TEXTS. -/
theorem blocksDelays_proved : Rows.BlocksDelaysCardSaid :=
  Claim7.holds_tied_plain_at .later [] [.listed, .data] true (true, "2bc1beed4253d2ff1f43974bf2eafbe6f11bb5962f2e96de7f0810dc18eb0f4b") false
    LawDelays.row_holds (fun _ h => by cases h) (by kernel_rfl) (fun _ h => by cases h) blocksDelays_row_tie rfl ⟨rfl, rfl⟩ (by kernel_rfl) rfl
    (fun f fn hf hfn => by
      obtain rfl : f = 4 := Option.some.inj ((show Tryd.prog.funcNamed "relay/relaylaw10.BlocksDelays" = some 4 by kernel_rfl).symm.trans hf) |>.symm
      obtain rfl : fn = Tryd.f4 := (Option.some.inj (Tryd.func4.symm.trans hfn)).symm
      exact ⟨by kernel_rfl, fun j t ht => by
        rw [Tryd.params4] at ht
        have hm : t ∈ [3, 34] := by simpa using Array.mem_of_getElem? ht
        have hall : ([3, 34].all fun u => !Tryd.prog.wantsStandIn u) = true := by kernel_rfl
        exact (show Tryd.prog.wantsStandIn t = false by simpa using List.all_eq_true.1 hall t hm)⟩)
    (by kernel_rfl)
end Go.Proofs.YtaaecgjbnickaabDoor
