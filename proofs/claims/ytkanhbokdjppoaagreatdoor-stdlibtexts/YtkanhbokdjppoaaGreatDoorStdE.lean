/- What Call answers, for whatever function of the table whose ways are known; no statement of the seat is proved here. -/
import Derived.Test.YtkanhbokdjppoaaGreatDoorStdN
import Derived.Test.YtkanhbokdjppoaaGreatDoorStdM
import Derived.Test.YtkanhbokdjppoaaGreatDoorStdB
namespace Go.Proofs.YtkanhbokdjppoaaGreatDoor
set_option linter.unusedVariables false
open Go.RowKit
section
variable (K : Int) (nm fm : ByteArray) (nx hw : Int) (tk gv : Nat) (a : Addr) (n cap : Nat) (v : Nat → Vl) (w : World)
set_option maxHeartbeats 4000000 in
theorem Call_bad (hU : ∀ w, Calls Tryz.prog 23 #[.int .i64 K] w fun e w' => e = .returned (FV ⟨nm, fm, nx, hw, some tk, some gv⟩) ∧ Below w.heap.size w w')
    (hv : VsAt w a n v) (ho : ∀ i, i < n → VlOk (v i)) (hn : n < 1000000) (m : Nat) (hm : m < n) (hbad : may3 (v m).k (v m).b (v m).s = false) :
    Calls Tryz.prog 35 #[.int .i64 K, .slice (some a) n cap] w fun e w' => e = .returned (.tuple #[V 0 0 E0, .int .i64 8]) ∧ Below w.heap.size w w' := by
  have HU : Hid _ := hU
  have HV : Hid (VsAt w a n v) := hv
  have HO : Hid (∀ i, i < n → VlOk (v i)) := ho
  have HM : Hid _ := hbad
  clear hU hv ho hbad
  have I : Hid (∃ i, Tryz.prog.info? 24 = some i ∧ i.zero = some (.int .u8 0) ∧ i.size = 1 ∧ i.bytes = 1) := by
    obtain ⟨i, hi, hz⟩ := Option.map_eq_some_iff.1 (show (Tryz.prog.info? 24).map (fun i => (i.zero, i.size, i.bytes)) = some (some (.int .u8 0), 1, 1) by kernel_rfl)
    simp only [Prod.mk.injEq] at hz
    exact ⟨i, hi, hz.1, hz.2.1, hz.2.2⟩
  go_enter Tryz.func35, Tryz.ntmps35
  go_wp2_with (first | (go_at_call 23; refine (HU.out _).mono ?_; rintro e w1 ⟨rfl, hb⟩; have HB : Hid _ := hb; clear hb) | (refine wpList_store_row rfl 54 _ _ rfl w1.heap.size _ rfl rfl _ _ (heap_alloc_last w1 _) fun_info rfl (by kernel_rfl) ?_; rw [World.setRow_alloc_new]))
  have z1 : w.heap.size < w1.heap.size := by have := HB.out.size; simp at this; omega
  have RB1 : Hid (VB w1 w.heap.size 0 0 E0) := VB.below (w := w.alloc (.cells #[.int .u8 0, .int .u64 0, .string ⟨#[]⟩] 38)) ⟨by simp, by simp, by simp, by simp, by simp, by simp⟩ HB.out
  have gr : Hid (Below w1.heap.size w1 (w1.alloc (.cells #[.string nm, .string fm, .int .i64 nx, .int .i64 hw, FO (some tk), FO (some gv)] 54))) := (Below.refl _ _).alloc (Nat.le_refl _) _
  have B1 : Hid (Below w.heap.size w w1) := ((Below.refl _ _).alloc (Nat.le_refl _) _).trans (HB.out.mono (by simp))
  have B2 : Hid (Below w.heap.size w (w1.alloc (.cells #[.string nm, .string fm, .int .i64 nx, .int .i64 hw, FO (some tk), FO (some gv)] 54))) := B1.out.trans (gr.out.mono B1.out.size)
  have RB : Hid (VB (w1.alloc (.cells #[.string nm, .string fm, .int .i64 nx, .int .i64 hw, FO (some tk), FO (some gv)] 54)) w.heap.size 0 0 E0) := RB1.out.below gr.out
  have FX : Hid (FuAt (w1.alloc (.cells #[.string nm, .string fm, .int .i64 nx, .int .i64 hw, FO (some tk), FO (some gv)] 54)) w1.heap.size 0 ⟨nm, fm, nx, hw, some tk, some gv⟩) := ⟨by simp, by simp, by simp, by simp, by simp, by simp⟩
  generalize (w1.alloc (.cells #[.string nm, .string fm, .int .i64 nx, .int .i64 hw, FO (some tk), FO (some gv)] 54)) = w2 at *
  clear gr RB1 HB HU
  have z2 : w.heap.size < w2.heap.size := block_lt_of_cell RB.out.c0
  go_loopw [7, 14] (fun x i wr => ∃ k : Nat, k ≤ n ∧ i = .int .i64 k ∧ wr.ownsRow w2.heap.size 24 1 x k (ksL k fun i => (v i).k) ∧ Below w2.heap.size w2 wr ∧ ∀ j, j < k → may3 (v j).k (v j).b (v j).s = true) (fun _ i _ => n - (intOf i).toNat)
  case atStart => exact ⟨0, Nat.zero_le _, rfl, ⟨rfl, .inl ⟨rfl, rfl⟩⟩, Below.refl _ _, fun j hj => absurd hj (Nat.not_lt_zero _)⟩
  case round =>
    obtain ⟨k, hk, rfl, hown, hb, hall⟩ := hrel
    have HB : Hid (Below w2.heap.size w2 wr) := hb
    have HR : Hid (wr.ownsRow w2.heap.size 24 1 _ k (ksL k fun i => (v i).k)) := hown
    have Bw : Hid (Below w.heap.size w wr) := B2.out.trans (hb.mono B2.out.size)
    have zr := hb.size
    have HA : Hid _ := hall
    clear hall
    by_cases hlt : k < n
    · cases mk : may3 (v k).k (v k).b (v k).s
      · have M : Hid (may3 (v k).k (v k).b (v k).s = false) := mk
        clear mk
        have O : Hid _ := HO.out k hlt
        obtain ⟨d0, d1, d2⟩ := HV.out.below Bw.out k hlt
        clear hown hb
        go_wp2_with (first | (go_at_call 52; refine (May_is _ _ _ _ false O.out.b0 O.out.b1 ⟨O.out.k0, O.out.k1⟩ O.out.s1 M.out).mono ?_; rintro e w5 ⟨rfl, hb5⟩; have HB5 : Hid (Below wr.heap.size wr w5) := ((Below.refl _ _).alloc (Nat.le_refl _) _).trans (hb5.mono (by simp)); obtain ⟨r0, r1, r2, r3, r4, r5⟩ := (RB.out.below HB.out).below HB5.out; clear hb5))
        have BB : Hid (Below w.heap.size w w5) := Bw.out.trans (HB5.out.mono Bw.out.size)
        exact bodyPost_ret (v := .tuple #[V 0 0 E0, .int .i64 8]) (by simp [results, Tryz.results35, go_sem, r0, r1, r2]) rfl ⟨rfl, ((BB.out.setCell (by simp) _).setCell (by simp) _).setCell (by simp) _⟩
      · have M : Hid (may3 (v k).k (v k).b (v k).s = true) := mk
        clear mk
        have O : Hid _ := HO.out k hlt
        obtain ⟨d0, d1, d2⟩ := HV.out.below Bw.out k hlt
        clear hown hb
        go_wp2_with (first | (go_at_call 52; refine (May_is _ _ _ _ true O.out.b0 O.out.b1 ⟨O.out.k0, O.out.k1⟩ O.out.s1 M.out).mono ?_; rintro e w5 ⟨rfl, hb5⟩; obtain ⟨q5, f5⟩ := bcell hb5; have s5 := hb5.size; (try simp at s5); have l5 : wr.heap.size < w5.heap.size := (by omega); have HB5 : Hid (Below wr.heap.size wr w5) := ((Below.refl _ _).alloc (Nat.le_refl _) _).trans (hb5.mono (by simp)); have HO5 : Hid (w5.ownsRow w2.heap.size 24 1 _ k (ksL k fun i => (v i).k)) := ownsRow_below HR.out HB5.out; clear hb5) | (at_builtin; obtain ⟨i, hi, hz, hs, hy⟩ := I.out; refine wpList_append_own _ rfl _ _ 22 rfl w2.heap.size 24 i _ 1 1 Tryz.underlying22 hi hz hs hy rfl (by decide) _ k _ rfl (ownsRow_below HO5.out ((Below.refl _ _).alloc (Nat.le_refl _) _)) ⟨w5.heap.size, 0, none⟩ 1 1 [.int .u8 (v k).k] rfl rfl (last_src w5 _ _) (by intro u hu; simp at hu; subst hu; rfl) (by simp [maxLen]; omega) (by omega) (by simp; omega) ?_; intro v' w' k1 k2 k3; have H1 : Hid (w'.ownsRow w2.heap.size 24 1 v' (k + 1) (ksL (k + 1) fun i => (v i).k)) := (by rw [ksL_succ]; exact k1); have H2 : Hid _ := k2; clear k1 k2 k3 hi hz hs hy))
        have SZ : Hid (w2.heap.size ≤ w5.heap.size) := Nat.le_trans HB.out.size HB5.out.size
        exact ⟨⟨k + 1, by omega, by go_num, H1.out, ((HB.out.trans (HB5.out.mono HB.out.size)).alloc SZ.out _).grown H2.out (by have := SZ.out; simp; omega) (fun g e => ownB HO5.out e), fun j hj => by rcases Nat.lt_succ_iff_lt_or_eq.1 hj with h | rfl; exact HA.out j h; exact M.out⟩, by simp [intOf]; omega⟩
    · have : may3 (v m).k (v m).b (v m).s = true := HA.out m (by omega)
      rw [HM.out] at this
      cases this
set_option maxHeartbeats 4000000 in
theorem Call_none (hU : ∀ w, Calls Tryz.prog 23 #[.int .i64 K] w fun e w' => e = .returned (FV ⟨nm, fm, nx, hw, some tk, some gv⟩) ∧ Below w.heap.size w w')
    (hv : VsAt w a n v) (ho : ∀ i, i < n → VlOk (v i)) (hn : n < 1000000) (hall : ∀ i, i < n → may3 (v i).k (v i).b (v i).s = true) (h0 : 0 < n)
    (hO : ∀ W g c, Below w.heap.size w W → KsAt W ⟨g, 0, none⟩ n (fun i => (v i).k) → n ≤ c → Calls Tryz.prog 24 #[FV ⟨nm, fm, nx, hw, some tk, some gv⟩, .slice (some ⟨g, 0, none⟩) n c] W fun e w' => e = .returned (.int .u8 0) ∧ Below W.heap.size W w') :
    Calls Tryz.prog 35 #[.int .i64 K, .slice (some a) n cap] w fun e w' => e = .returned (.tuple #[V 0 0 E0, .int .i64 8]) ∧ Below w.heap.size w w' := by
  have HU : Hid _ := hU
  have HV : Hid (VsAt w a n v) := hv
  have HO : Hid (∀ i, i < n → VlOk (v i)) := ho
  have HM : Hid _ := hall
  have HC : Hid _ := hO
  clear hU hv ho hall hO
  have I : Hid (∃ i, Tryz.prog.info? 24 = some i ∧ i.zero = some (.int .u8 0) ∧ i.size = 1 ∧ i.bytes = 1) := by
    obtain ⟨i, hi, hz⟩ := Option.map_eq_some_iff.1 (show (Tryz.prog.info? 24).map (fun i => (i.zero, i.size, i.bytes)) = some (some (.int .u8 0), 1, 1) by kernel_rfl)
    simp only [Prod.mk.injEq] at hz
    exact ⟨i, hi, hz.1, hz.2.1, hz.2.2⟩
  go_enter Tryz.func35, Tryz.ntmps35
  go_wp2_with (first | (go_at_call 23; refine (HU.out _).mono ?_; rintro e w1 ⟨rfl, hb⟩; have HB : Hid _ := hb; clear hb) | (refine wpList_store_row rfl 54 _ _ rfl w1.heap.size _ rfl rfl _ _ (heap_alloc_last w1 _) fun_info rfl (by kernel_rfl) ?_; rw [World.setRow_alloc_new]))
  have z1 : w.heap.size < w1.heap.size := by have := HB.out.size; simp at this; omega
  have RB1 : Hid (VB w1 w.heap.size 0 0 E0) := VB.below (w := w.alloc (.cells #[.int .u8 0, .int .u64 0, .string ⟨#[]⟩] 38)) ⟨by simp, by simp, by simp, by simp, by simp, by simp⟩ HB.out
  have gr : Hid (Below w1.heap.size w1 (w1.alloc (.cells #[.string nm, .string fm, .int .i64 nx, .int .i64 hw, FO (some tk), FO (some gv)] 54))) := (Below.refl _ _).alloc (Nat.le_refl _) _
  have B1 : Hid (Below w.heap.size w w1) := ((Below.refl _ _).alloc (Nat.le_refl _) _).trans (HB.out.mono (by simp))
  have B2 : Hid (Below w.heap.size w (w1.alloc (.cells #[.string nm, .string fm, .int .i64 nx, .int .i64 hw, FO (some tk), FO (some gv)] 54))) := B1.out.trans (gr.out.mono B1.out.size)
  have RB : Hid (VB (w1.alloc (.cells #[.string nm, .string fm, .int .i64 nx, .int .i64 hw, FO (some tk), FO (some gv)] 54)) w.heap.size 0 0 E0) := RB1.out.below gr.out
  have FX : Hid (FuAt (w1.alloc (.cells #[.string nm, .string fm, .int .i64 nx, .int .i64 hw, FO (some tk), FO (some gv)] 54)) w1.heap.size 0 ⟨nm, fm, nx, hw, some tk, some gv⟩) := ⟨by simp, by simp, by simp, by simp, by simp, by simp⟩
  generalize (w1.alloc (.cells #[.string nm, .string fm, .int .i64 nx, .int .i64 hw, FO (some tk), FO (some gv)] 54)) = w2 at *
  clear gr RB1 HB HU
  have z2 : w.heap.size < w2.heap.size := block_lt_of_cell RB.out.c0
  go_loopw [7, 14] (fun x i wr => ∃ k : Nat, k ≤ n ∧ i = .int .i64 k ∧ wr.ownsRow w2.heap.size 24 1 x k (ksL k fun i => (v i).k) ∧ Below w2.heap.size w2 wr) (fun _ i _ => n - (intOf i).toNat)
  case atStart => exact ⟨0, Nat.zero_le _, rfl, ⟨rfl, .inl ⟨rfl, rfl⟩⟩, Below.refl _ _⟩
  case round =>
    obtain ⟨k, hk, rfl, hown, hb⟩ := hrel
    have HB : Hid (Below w2.heap.size w2 wr) := hb
    have HR : Hid (wr.ownsRow w2.heap.size 24 1 _ k (ksL k fun i => (v i).k)) := hown
    have Bw : Hid (Below w.heap.size w wr) := B2.out.trans (hb.mono B2.out.size)
    have zr := hb.size
    by_cases hlt : k < n
    · have M : Hid (may3 (v k).k (v k).b (v k).s = true) := HM.out k hlt
      have O : Hid _ := HO.out k hlt
      obtain ⟨d0, d1, d2⟩ := HV.out.below Bw.out k hlt
      clear hown hb
      go_wp2_with (first | (go_at_call 52; refine (May_is _ _ _ _ true O.out.b0 O.out.b1 ⟨O.out.k0, O.out.k1⟩ O.out.s1 M.out).mono ?_; rintro e w5 ⟨rfl, hb5⟩; obtain ⟨q5, f5⟩ := bcell hb5; have s5 := hb5.size; (try simp at s5); have l5 : wr.heap.size < w5.heap.size := (by omega); have HB5 : Hid (Below wr.heap.size wr w5) := ((Below.refl _ _).alloc (Nat.le_refl _) _).trans (hb5.mono (by simp)); have HO5 : Hid (w5.ownsRow w2.heap.size 24 1 _ k (ksL k fun i => (v i).k)) := ownsRow_below HR.out HB5.out; clear hb5) | (at_builtin; obtain ⟨i, hi, hz, hs, hy⟩ := I.out; refine wpList_append_own _ rfl _ _ 22 rfl w2.heap.size 24 i _ 1 1 Tryz.underlying22 hi hz hs hy rfl (by decide) _ k _ rfl (ownsRow_below HO5.out ((Below.refl _ _).alloc (Nat.le_refl _) _)) ⟨w5.heap.size, 0, none⟩ 1 1 [.int .u8 (v k).k] rfl rfl (last_src w5 _ _) (by intro u hu; simp at hu; subst hu; rfl) (by simp [maxLen]; omega) (by omega) (by simp; omega) ?_; intro v' w' k1 k2 k3; have H1 : Hid (w'.ownsRow w2.heap.size 24 1 v' (k + 1) (ksL (k + 1) fun i => (v i).k)) := (by rw [ksL_succ]; exact k1); have H2 : Hid _ := k2; clear k1 k2 k3 hi hz hs hy))
      have SZ : Hid (w2.heap.size ≤ w5.heap.size) := Nat.le_trans HB.out.size HB5.out.size
      exact ⟨⟨k + 1, by omega, by go_num, H1.out, ((HB.out.trans (HB5.out.mono HB.out.size)).alloc SZ.out _).grown H2.out (by have := SZ.out; simp; omega) (fun g e => ownB HO5.out e)⟩, by simp [intOf]; omega⟩
    · obtain rfl : k = n := by omega
      obtain ⟨g, c, rfl, hg, hks, hcap⟩ := own_kinds HR.out h0
      have HCP : Hid (k ≤ c) := hcap
      clear hcap
      have KS : Hid (KsAt wr ⟨g, 0, none⟩ k fun i => (v i).k) := hks
      have FB : Hid (FuAt wr w1.heap.size 0 ⟨nm, fm, nx, hw, some tk, some gv⟩) := FX.out.below HB.out
      obtain ⟨x0, x1, x2, x3, x4, x5⟩ := FB.out
      simp only [Nat.zero_add, FO] at x0 x1 x2 x3 x4 x5
      clear hown hb hks hg
      go_wp2_with (first | (go_at_call 24; refine (HC.out _ g c Bw.out KS.out HCP.out).mono ?_; rintro e w6 ⟨rfl, hb6⟩; have HB6 : Hid (Below wr.heap.size wr w6) := hb6; obtain ⟨r0, r1, r2, r3, r4, r5⟩ := (RB.out.below HB.out).below HB6.out; clear hb6))
      have BB : Hid (Below w.heap.size w w6) := Bw.out.trans (HB6.out.mono Bw.out.size)
      exact bodyPost_ret (v := .tuple #[V 0 0 E0, .int .i64 8]) (by simp [results, Tryz.results35, go_sem, r0, r1, r2]) rfl ⟨rfl, ((BB.out.setCell (by simp) _).setCell (by simp) _).setCell (by simp) _⟩
set_option maxHeartbeats 4000000 in
theorem Call_yes (hU : ∀ w, Calls Tryz.prog 23 #[.int .i64 K] w fun e w' => e = .returned (FV ⟨nm, fm, nx, hw, some tk, some gv⟩) ∧ Below w.heap.size w w')
    (hv : VsAt w a n v) (ho : ∀ i, i < n → VlOk (v i)) (hn : n < 1000000) (hall : ∀ i, i < n → may3 (v i).k (v i).b (v i).s = true) (h0 : 0 < n) (R rk rb fa : Int) (rs : ByteArray) (hR : (R == 0) = false)
    (hO : ∀ W g c, Below w.heap.size w W → KsAt W ⟨g, 0, none⟩ n (fun i => (v i).k) → n ≤ c → Calls Tryz.prog 24 #[FV ⟨nm, fm, nx, hw, some tk, some gv⟩, .slice (some ⟨g, 0, none⟩) n c] W fun e w' => e = .returned (.int .u8 R) ∧ Below W.heap.size W w')
    (hG : ∀ W, Below w.heap.size w W → Calls Tryz.prog gv #[.int .i64 hw, .slice (some a) n cap] W fun e w' => e = .returned (.tuple #[V rk rb rs, .int .i64 fa]) ∧ Below W.heap.size W w')
    (hC : ∀ args w, (callFunc gv args).run Tryz.prog w = .ok (.enter gv args) w) :
    Calls Tryz.prog 35 #[.int .i64 K, .slice (some a) n cap] w fun e w' => e = .returned (.tuple #[V rk rb rs, .int .i64 fa]) ∧ Below w.heap.size w w' := by
  have HU : Hid _ := hU
  have HV : Hid (VsAt w a n v) := hv
  have HO : Hid (∀ i, i < n → VlOk (v i)) := ho
  have HM : Hid _ := hall
  have HC : Hid _ := hO
  have HG : Hid _ := hG
  clear hU hv ho hall hO hG
  have I : Hid (∃ i, Tryz.prog.info? 24 = some i ∧ i.zero = some (.int .u8 0) ∧ i.size = 1 ∧ i.bytes = 1) := by
    obtain ⟨i, hi, hz⟩ := Option.map_eq_some_iff.1 (show (Tryz.prog.info? 24).map (fun i => (i.zero, i.size, i.bytes)) = some (some (.int .u8 0), 1, 1) by kernel_rfl)
    simp only [Prod.mk.injEq] at hz
    exact ⟨i, hi, hz.1, hz.2.1, hz.2.2⟩
  go_enter Tryz.func35, Tryz.ntmps35
  go_wp2_with (first | (go_at_call 23; refine (HU.out _).mono ?_; rintro e w1 ⟨rfl, hb⟩; have HB : Hid _ := hb; clear hb) | (refine wpList_store_row rfl 54 _ _ rfl w1.heap.size _ rfl rfl _ _ (heap_alloc_last w1 _) fun_info rfl (by kernel_rfl) ?_; rw [World.setRow_alloc_new]))
  have z1 : w.heap.size < w1.heap.size := by have := HB.out.size; simp at this; omega
  have RB1 : Hid (VB w1 w.heap.size 0 0 E0) := VB.below (w := w.alloc (.cells #[.int .u8 0, .int .u64 0, .string ⟨#[]⟩] 38)) ⟨by simp, by simp, by simp, by simp, by simp, by simp⟩ HB.out
  have gr : Hid (Below w1.heap.size w1 (w1.alloc (.cells #[.string nm, .string fm, .int .i64 nx, .int .i64 hw, FO (some tk), FO (some gv)] 54))) := (Below.refl _ _).alloc (Nat.le_refl _) _
  have B1 : Hid (Below w.heap.size w w1) := ((Below.refl _ _).alloc (Nat.le_refl _) _).trans (HB.out.mono (by simp))
  have B2 : Hid (Below w.heap.size w (w1.alloc (.cells #[.string nm, .string fm, .int .i64 nx, .int .i64 hw, FO (some tk), FO (some gv)] 54))) := B1.out.trans (gr.out.mono B1.out.size)
  have RB : Hid (VB (w1.alloc (.cells #[.string nm, .string fm, .int .i64 nx, .int .i64 hw, FO (some tk), FO (some gv)] 54)) w.heap.size 0 0 E0) := RB1.out.below gr.out
  have FX : Hid (FuAt (w1.alloc (.cells #[.string nm, .string fm, .int .i64 nx, .int .i64 hw, FO (some tk), FO (some gv)] 54)) w1.heap.size 0 ⟨nm, fm, nx, hw, some tk, some gv⟩) := ⟨by simp, by simp, by simp, by simp, by simp, by simp⟩
  generalize (w1.alloc (.cells #[.string nm, .string fm, .int .i64 nx, .int .i64 hw, FO (some tk), FO (some gv)] 54)) = w2 at *
  clear gr RB1 HB HU
  have z2 : w.heap.size < w2.heap.size := block_lt_of_cell RB.out.c0
  go_loopw [7, 14] (fun x i wr => ∃ k : Nat, k ≤ n ∧ i = .int .i64 k ∧ wr.ownsRow w2.heap.size 24 1 x k (ksL k fun i => (v i).k) ∧ Below w2.heap.size w2 wr) (fun _ i _ => n - (intOf i).toNat)
  case atStart => exact ⟨0, Nat.zero_le _, rfl, ⟨rfl, .inl ⟨rfl, rfl⟩⟩, Below.refl _ _⟩
  case round =>
    obtain ⟨k, hk, rfl, hown, hb⟩ := hrel
    have HB : Hid (Below w2.heap.size w2 wr) := hb
    have HR : Hid (wr.ownsRow w2.heap.size 24 1 _ k (ksL k fun i => (v i).k)) := hown
    have Bw : Hid (Below w.heap.size w wr) := B2.out.trans (hb.mono B2.out.size)
    have zr := hb.size
    by_cases hlt : k < n
    · have M : Hid (may3 (v k).k (v k).b (v k).s = true) := HM.out k hlt
      have O : Hid _ := HO.out k hlt
      obtain ⟨d0, d1, d2⟩ := HV.out.below Bw.out k hlt
      clear hown hb
      go_wp2_with (first | (go_at_call 52; refine (May_is _ _ _ _ true O.out.b0 O.out.b1 ⟨O.out.k0, O.out.k1⟩ O.out.s1 M.out).mono ?_; rintro e w5 ⟨rfl, hb5⟩; obtain ⟨q5, f5⟩ := bcell hb5; have s5 := hb5.size; (try simp at s5); have l5 : wr.heap.size < w5.heap.size := (by omega); have HB5 : Hid (Below wr.heap.size wr w5) := ((Below.refl _ _).alloc (Nat.le_refl _) _).trans (hb5.mono (by simp)); have HO5 : Hid (w5.ownsRow w2.heap.size 24 1 _ k (ksL k fun i => (v i).k)) := ownsRow_below HR.out HB5.out; clear hb5) | (at_builtin; obtain ⟨i, hi, hz, hs, hy⟩ := I.out; refine wpList_append_own _ rfl _ _ 22 rfl w2.heap.size 24 i _ 1 1 Tryz.underlying22 hi hz hs hy rfl (by decide) _ k _ rfl (ownsRow_below HO5.out ((Below.refl _ _).alloc (Nat.le_refl _) _)) ⟨w5.heap.size, 0, none⟩ 1 1 [.int .u8 (v k).k] rfl rfl (last_src w5 _ _) (by intro u hu; simp at hu; subst hu; rfl) (by simp [maxLen]; omega) (by omega) (by simp; omega) ?_; intro v' w' k1 k2 k3; have H1 : Hid (w'.ownsRow w2.heap.size 24 1 v' (k + 1) (ksL (k + 1) fun i => (v i).k)) := (by rw [ksL_succ]; exact k1); have H2 : Hid _ := k2; clear k1 k2 k3 hi hz hs hy))
      have SZ : Hid (w2.heap.size ≤ w5.heap.size) := Nat.le_trans HB.out.size HB5.out.size
      exact ⟨⟨k + 1, by omega, by go_num, H1.out, ((HB.out.trans (HB5.out.mono HB.out.size)).alloc SZ.out _).grown H2.out (by have := SZ.out; simp; omega) (fun g e => ownB HO5.out e)⟩, by simp [intOf]; omega⟩
    · obtain rfl : k = n := by omega
      obtain ⟨g, c, rfl, hg, hks, hcap⟩ := own_kinds HR.out h0
      have HCP : Hid (k ≤ c) := hcap
      clear hcap
      have KS : Hid (KsAt wr ⟨g, 0, none⟩ k fun i => (v i).k) := hks
      have FB : Hid (FuAt wr w1.heap.size 0 ⟨nm, fm, nx, hw, some tk, some gv⟩) := FX.out.below HB.out
      obtain ⟨x0, x1, x2, x3, x4, x5⟩ := FB.out
      simp only [Nat.zero_add, FO] at x0 x1 x2 x3 x4 x5
      clear hown hb hks hg
      go_wp2_with (first | (go_at_call 24; refine (HC.out _ g c Bw.out KS.out HCP.out).mono ?_; rintro e w6 ⟨rfl, hb6⟩; have HB6 : Hid (Below wr.heap.size wr w6) := hb6; obtain ⟨y0, y1, y2, y3, y4, y5⟩ := FB.out.below HB6.out; simp only [Nat.zero_add, FO] at y0 y1 y2 y3 y4 y5; clear hb6))
      have BB : Hid (Below w.heap.size w w6) := Bw.out.trans (HB6.out.mono Bw.out.size)
      refine (HG.out _ BB.out).mono ?_
      rintro e w7 ⟨rfl, hb7⟩
      have HB7 : Hid (Below w6.heap.size w6 w7) := hb7
      obtain ⟨r0, r1, r2, r3, r4, r5⟩ := ((RB.out.below HB.out).below HB6.out).below hb7
      clear hb7 y0 y1 y2 y3 y4 y5 x0 x1 x2 x3 x4 x5
      go_wp2
      exact bodyPost_ret (v := .tuple #[V rk rb rs, .int .i64 fa]) (by simp [results, Tryz.results35, go_sem, r0, r1, r2]) rfl ⟨rfl, (((BB.out.trans (HB7.out.mono BB.out.size)).setCell (by simp) _).setCell (by simp) _).setCell (by simp) _⟩
end
end Go.Proofs.YtkanhbokdjppoaaGreatDoor
