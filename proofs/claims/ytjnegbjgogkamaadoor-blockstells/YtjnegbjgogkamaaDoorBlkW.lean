/- What Step answers, for whatever block whose step is known: the walk; no statement of the seat is proved here. -/
import Derived.Test.YtjnegbjgogkamaaDoorBlkV
import Derived.Handy
namespace Go.Proofs.YtjnegbjgogkamaaDoor
set_option linter.unusedVariables false
open Go.RowKit
/-- A time that may be. -/
def clN (now : Int) : Int := if now < 0 then 0 else if 4611686018427387904 < now then 4611686018427387904 else now
/-- The numbers of a block's cells. -/
def nmL (n : Nat) (v : Nat → Vl) : List Int := (List.range n).map fun i => nmV (v i).k (v i).b
/-- The values of numbers, by a block's kinds. -/
def vlL (ks : ByteArray) (l : List Int) (i : Nat) : Vl := ⟨kAt ks i, l.getD i 0 % 18446744073709551616, ⟨#[]⟩⟩
theorem fn_nil (f : Nat) (w : World) : (binOp .eql 49 (FN f) .nilFunc).run Tryd.prog w = .ok (.bool false) w := by kernel_rfl
theorem K3_r {k : Int} (h : K3 k) : 0 ≤ k ∧ k < 256 := by rcases h with rfl | rfl | rfl <;> omega
theorem K3_c {k : Int} (h : K3 k) : 1 ≤ k ∧ k ≤ 17 := by rcases h with rfl | rfl | rfl <;> omega
theorem fit_bd {k n : Int} (h : K3 k) (f : fitOk k n = true) : -9223372036854775808 ≤ n ∧ n < 9223372036854775808 := by
  unfold fitOk at f
  rw [Bool.and_eq_true] at f
  obtain ⟨f1, f2⟩ := f
  have f2 := of_decide_eq_true f2
  have bd := wrap64_bd (n % 18446744073709551616)
  rcases h with rfl | rfl | rfl
  · rw [num_u (by omega)] at f2
    have : n % 18446744073709551616 ≤ 1 := by
      have := f1; unfold may3 at this; simp [mayW] at this; omega
    omega
  · rw [num_s (by omega)] at f2; omega
  · rw [num_s (by omega)] at f2; omega
section
variable (K : Int) (nm names ks : ByteArray) (ins outs : Int) (f : Nat) (a : Addr) (n cap : Nat) (v : Nat → Vl) (now : Int) (w : World)
set_option maxHeartbeats 4000000 in
theorem Step_no (hN : ∀ w, Calls Tryd.prog 25 #[.int .i64 K] w fun e w' => e = .returned (BV nm names ks ins outs (FN f)) ∧ Below w.heap.size w w')
    (hv : VsAt w a n v) (ho : ∀ i, i < n → VlOk (v i)) (hn : n = ks.size) (hm : ks.size ≤ 100) (ht : tkB ks v n = false) :
    Calls Tryd.prog 18 #[.int .i64 K, .slice (some a) n cap, .int .i64 now] w fun e w' => e = .returned (.tuple #[.slice none 0 0, .int .i64 8]) ∧ Below w.heap.size w w' := by
  have HN : Hid _ := hN
  have HV : Hid (VsAt w a n v) := hv
  have HO : Hid _ := ho
  have HE : Hid _ := hn
  clear hN hv ho hn
  have fe := fn_nil f
  go_enter Tryd.func18, Tryd.ntmps18
  go_wp2_with (first | (go_at_call 25; refine (HN.out _).mono ?_; rintro e w1 ⟨rfl, hb⟩; have HB : Hid _ := hb; have VB := HV.out.below hb; have HV1 : Hid (VsAt (w1.alloc (.cells #[.string nm, .string names, .string ks, .int .i64 ins, .int .i64 outs, FN f] 51)) a n v) := VB.below ((Below.refl _ _).alloc (Nat.le_refl w1.heap.size) _); clear VB hb) | (refine wpList_store_row rfl 51 _ _ rfl w1.heap.size _ rfl rfl _ _ (heap_alloc_last w1 _) blk_info rfl (by kernel_rfl) ?_; rw [World.setRow_alloc_new]) | (go_at_call 32; refine (takes_yes _ _ _ _ _ _ _ _ _ v _ HV1.out HO.out HE.out hm).mono ?_; rintro e w2 ⟨rfl, hb2⟩; have HB2 : Hid _ := hb2; clear hb2))
  go_ret2
  exact ⟨rfl, HB.out.trans ((((Below.refl _ _).alloc (Nat.le_refl _) _).trans (HB2.out.mono (by simp))).mono HB.out.size)⟩
set_option maxHeartbeats 4000000 in
theorem Step_yes (hN : ∀ w, Calls Tryd.prog 25 #[.int .i64 K] w fun e w' => e = .returned (BV nm names ks ins outs (FN f)) ∧ Below w.heap.size w w')
    (hv : VsAt w a n v) (ho : ∀ i, i < n → VlOk (v i)) (hn : n = ks.size) (hm : n ≤ 100) (ht : tkB ks v n = true)
    (hS : ∀ (z : Int) (g : Nat) (w : World), 0 ≤ z ∧ z ≤ 4611686018427387904 → NBk w g (nmL n v) → Calls Tryd.prog f #[.int .i64 z, NS g n] w fun e w' => e = .returned (.tuple #[]) ∧ Wr w w' g (nxt K z (nmL n v)))
    (hC : ∀ args w, (callFunc f args).run Tryd.prog w = .ok (.enter f args) w)
    (hL : ∀ z : Int, 0 ≤ z ∧ z ≤ 4611686018427387904 → (nxt K z (nmL n v)).length = n ∧ ∀ i, i < n → fitOk (kAt ks i) ((nxt K z (nmL n v)).getD i 0) = true) :
    Calls Tryd.prog 18 #[.int .i64 K, .slice (some a) n cap, .int .i64 now] w fun e w' => ∃ g, e = .returned (.tuple #[NS g n, .int .i64 0]) ∧ w.heap.size ≤ g ∧ Row3 w' g n (vlL ks (nxt K (clN now) (nmL n v))) ∧ Below w.heap.size w w' := by
  have HN : Hid _ := hN
  have HV : Hid (VsAt w a n v) := hv
  have HO : Hid _ := ho
  have HE : Hid _ := hn
  have HS : Hid _ := hS
  have HL : Hid _ := hL
  have hm' : ks.size ≤ 100 := by omega
  clear hN hv ho hn hS hL
  have HT : Hid (∀ i, i < n → (v i).k = kAt ks i ∧ may3 (v i).k (v i).b (v i).s = true) := by
    have g := ht
    unfold tkB at g
    have g' := of_decide_eq_true g
    exact g'
  have fe := fn_nil f
  have m1 := mk_ints n hm
  have m2 := mk_vals n hm
  rcases (show now < 0 ∨ (0 ≤ now ∧ now ≤ 4611686018427387904) ∨ 4611686018427387904 < now by omega) with hnow | hnow | hnow
  · go_enter Tryd.func18, Tryd.ntmps18
    go_wp2_with (first | (go_at_call 25; refine (HN.out _).mono ?_; rintro e w1 ⟨rfl, hb⟩; have HB : Hid _ := hb; have VB := HV.out.below hb; have HV1 : Hid (VsAt (w1.alloc (.cells #[.string nm, .string names, .string ks, .int .i64 ins, .int .i64 outs, FN f] 51)) a n v) := VB.below ((Below.refl _ _).alloc (Nat.le_refl w1.heap.size) _); clear VB hb) | (refine wpList_store_row rfl 51 _ _ rfl w1.heap.size _ rfl rfl _ _ (heap_alloc_last w1 _) blk_info rfl (by kernel_rfl) ?_; rw [World.setRow_alloc_new]) | (go_at_call 32; refine (takes_yes _ _ _ _ _ _ _ _ _ v _ HV1.out HO.out HE.out hm').mono ?_; rintro e w2 ⟨rfl, hb2⟩; have HB2 : Hid _ := hb2; clear hb2))
    have zb : w.heap.size ≤ w1.heap.size := HB.out.size
    have zn : w1.heap.size < w2.heap.size := by have := HB2.out.size; simp at this; omega
    have B2 : Hid (Below w.heap.size w w2) := HB.out.trans ((((Below.refl _ _).alloc (Nat.le_refl _) _).trans (HB2.out.mono (by simp))).mono HB.out.size)
    have X2 : Hid (BxAt w2 w1.heap.size nm names ks ins outs (FN f)) := BxAt.below (w := w1.alloc (.cells #[.string nm, .string names, .string ks, .int .i64 ins, .int .i64 outs, FN f] 51)) ⟨by simp, by simp, by simp, by simp, by simp, by simp⟩ HB2.out
    clear HB2 HV1
    go_loopw [31] (fun i wr => ∃ k : Nat, k ≤ n ∧ i = .int .i64 k ∧ Below w.heap.size w wr ∧ BxAt wr w1.heap.size nm names ks ins outs (FN f) ∧ NBk wr w2.heap.size (prt n k fun i => nmV (v i).k (v i).b)) (fun i _ => n - (intOf i).toNat)
    case atStart => exact ⟨0, Nat.zero_le _, rfl, B2.out.alloc (by omega) _, X2.out.below ((Below.refl _ _).alloc (Nat.le_refl _) _), by unfold NBk; rw [← prt_0, ← made_ints]; exact heap_alloc_last w2 _⟩
    case round =>
      obtain ⟨k, hk, rfl, hb, hx, hnb⟩ := hrel
      have z2 := hnb.lt
      have HB : Hid _ := hb
      have HX : Hid _ := hx
      have HNB : Hid (NBk wr w2.heap.size (prt n k fun i => nmV (v i).k (v i).b)) := hnb
      by_cases hlt : k < n
      · obtain ⟨d0, d1, d2⟩ := HV.out.below hb k hlt
        have O : Hid _ := HO.out k hlt
        have T : Hid _ := HT.out k hlt
        have KK : Hid (K3 (v k).k) := by show K3 _; rw [T.out.1]; exact kAt_cases ks k
        clear hb hx hnb
        go_wp2_with (first | (go_at_call 33; refine (Number_ok _ _ _ _ O.out.b0 O.out.b1 O.out.s1 T.out.2 KK.out).mono ?_; rintro e w4 ⟨rfl, hb4⟩; have HB4 : Hid _ := hb4; have nb4 := (HNB.out.alloc (.cells #[.int .u8 (v k).k, .int .u64 (v k).b, .string (v k).s] 34)).below hb4; have NB4 : Hid (NBk w4 w2.heap.size (prt n k fun i => nmV (v i).k (v i).b)) := nb4; have q1 := nb4.cell k 0 (by simp [prt, hlt]); have q2 := nb4.free k; clear hb4 nb4))
        have B4 : Hid (Below wr.heap.size wr w4) := ((Below.refl _ _).alloc (Nat.le_refl _) _).trans (HB4.out.mono (by simp))
        refine ⟨⟨k + 1, by omega, by go_num, (HB.out.trans (B4.out.mono HB.out.size)).setCell (by simp; omega) _, (HX.out.below B4.out).other (Below.heap_setCell _ _ _ _ (by simp; omega)), ?_⟩, by simp [intOf]; omega⟩
        have := NB4.out.set k (nmV (v k).k (v k).b)
        rw [prt_set n k (fun i => nmV (v i).k (v i).b) hlt] at this
        exact this
      · have ek : k = n := by omega
        subst ek
        have HNB : Hid (NBk wr w2.heap.size (nmL k v)) := by show NBk _ _ _; unfold nmL; rw [← prt_all]; exact hnb
        obtain ⟨c0, c1, c2, c3, c4, c5⟩ := hx
        clear hb hnb
        go_wp2
        refine (HS.out 0 w2.heap.size wr (by omega) HNB.out).mono ?_
        rintro e w5 ⟨rfl, hw⟩
        have HW : Hid (Wr wr w5 w2.heap.size (nxt K 0 (nmL k v))) := hw
        clear hw HNB c0 c1 c2 c3 c4 c5
        go_wp2
        have z5 : w2.heap.size < w5.heap.size := HW.out.nb.lt
        have B5 : Hid (Below w.heap.size w w5) := HB.out.trans (HW.out.below (by omega))
        have X5 : Hid (BxAt w5 w1.heap.size nm names ks ins outs (FN f)) := HX.out.other (HW.out.other _ (by omega))
        have N5 : Hid (NBk w5 w2.heap.size (nxt K 0 (nmL k v))) := HW.out.nb
        have L5 := HL.out 0 (by omega)
        have CL : Hid (clN now = 0) := by show clN now = 0; unfold clN; rw [if_pos hnow]
        clear HW HX HB
        generalize hLL : nxt K 0 (nmL k v) = L at *
        obtain ⟨L1, L2⟩ := L5
        have LL : Hid (nxt K 0 (nmL k v) = L) := hLL
        have L2 : Hid (∀ i, i < k → fitOk (kAt ks i) (L.getD i 0) = true) := L2
        have L1 : Hid (L.length = k) := L1
        clear hLL
        go_loopw [57] (fun i wr => ∃ j : Nat, j ≤ k ∧ i = .int .i64 j ∧ Below w.heap.size w wr ∧ BxAt wr w1.heap.size nm names ks ins outs (FN f) ∧ NBk wr w2.heap.size L ∧ Row3 wr w5.heap.size k (fun i => if i < j then vlL ks L i else ⟨0, 0, ⟨#[]⟩⟩)) (fun i _ => k - (intOf i).toNat)
        case atStart => exact ⟨0, Nat.zero_le _, rfl, B5.out.alloc (by omega) _, X5.out.below ((Below.refl _ _).alloc (Nat.le_refl _) _), N5.out.alloc _, _, heap_alloc_last w5 _, Nat.le_of_eq (size_madeCells _ _).symm, fun i hi => made_vals k i hi⟩
        case round =>
          obtain ⟨j, hj, rfl, hb, hx, hnb, hr⟩ := hrel
          by_cases hlt : j < k
          · have HB : Hid _ := hb
            have HX : Hid _ := hx
            have HNB : Hid (NBk wr w2.heap.size L) := hnb
            have HR : Hid (Row3 wr w5.heap.size k (fun i => if i < j then vlL ks L i else ⟨0, 0, ⟨#[]⟩⟩)) := hr
            have d := hnb.cell j (L.getD j 0) (by rw [List.getElem?_eq_getElem (by rw [L1.out]; exact hlt)]; simp [List.getD, L1.out, hlt])
            obtain ⟨c0, c1, c2, c3, c4, c5⟩ := hx
            have zr := hr.lt
            clear hb hnb hr
            have F : Hid _ := L2.out j hlt
            have KC : Hid (K3 (kAt ks j)) := kAt_cases ks j
            generalize hx : L.getD j 0 = x at *
            go_wp2_with (first | (go_at_call 28; refine (kind_of _ _ _ _ _ _ _ _ (by have := HE.out; omega)).mono ?_; rintro e w6 ⟨rfl, hb6⟩; have HB6 : Hid _ := hb6; clear hb6) | (go_at_call 34; refine (Int_yes _ _ _ (K3_r KC.out) (K3_c KC.out) (fit_bd KC.out F.out) F.out).mono ?_; rintro e w7 ⟨rfl, hb7⟩; have HB7 : Hid _ := hb7; have R7 := (HR.out.below HB6.out).below hb7; obtain ⟨y0, y1, y2, p0, p1, p2⟩ := R7.cellsEx j hlt; have f0 := R7.free (j * 3); have f1 := R7.free (j * 3 + 1); have f2 := R7.free (j * 3 + 2); have R7' : Hid (Row3 w7 w5.heap.size k (fun i => if i < j then vlL ks L i else ⟨0, 0, ⟨#[]⟩⟩)) := R7; clear hb7 R7))
            have B6 : Hid (Below wr.heap.size wr w7) := HB6.out.trans (HB7.out.mono HB6.out.size)
            refine ⟨⟨j + 1, by omega, by go_num, (((HB.out.trans (B6.out.mono HB.out.size)).setCell (by simp; omega) _).setCell (by simp; omega) _).setCell (by simp; omega) _, (HX.out.below B6.out).other (by rw [Below.heap_setCell _ _ _ _ (by simp; omega), Below.heap_setCell _ _ _ _ (by simp; omega), Below.heap_setCell _ _ _ _ (by simp; omega)]), (((HNB.out.below B6.out).other (by simp; omega) _).other (by simp; omega) _).other (by simp; omega) _, ?_⟩, by simp [intOf]; omega⟩
            refine (R7'.out.set j hlt ⟨kAt ks j, x % 18446744073709551616, E0⟩).congr (fun i hi => ?_)
            by_cases e : i = j
            · subst e
              simp only [if_true, if_pos (Nat.lt_succ_self i), vlL, hx]
            · by_cases h : i < j
              · simp only [if_neg e, if_pos h, if_pos (Nat.lt_succ_of_lt h)]
              · simp only [if_neg e, if_neg h, if_neg (show ¬ i < j + 1 by omega)]
          · have ej : j = k := by omega
            have HB : Hid _ := hb
            have HR : Hid (Row3 wr w5.heap.size k (fun i => if i < j then vlL ks L i else ⟨0, 0, ⟨#[]⟩⟩)) := hr
            clear hb hx hnb hr
            go_wp2
            go_ret2
            refine ⟨w5.heap.size, rfl, by omega, ?_, HB.out⟩
            rw [CL.out, LL.out]
            exact HR.out.congr (fun i hi => if_pos (by omega))
  · obtain ⟨hn1, hn2⟩ := hnow
    go_enter Tryd.func18, Tryd.ntmps18
    go_wp2_with (first | (go_at_call 25; refine (HN.out _).mono ?_; rintro e w1 ⟨rfl, hb⟩; have HB : Hid _ := hb; have VB := HV.out.below hb; have HV1 : Hid (VsAt (w1.alloc (.cells #[.string nm, .string names, .string ks, .int .i64 ins, .int .i64 outs, FN f] 51)) a n v) := VB.below ((Below.refl _ _).alloc (Nat.le_refl w1.heap.size) _); clear VB hb) | (refine wpList_store_row rfl 51 _ _ rfl w1.heap.size _ rfl rfl _ _ (heap_alloc_last w1 _) blk_info rfl (by kernel_rfl) ?_; rw [World.setRow_alloc_new]) | (go_at_call 32; refine (takes_yes _ _ _ _ _ _ _ _ _ v _ HV1.out HO.out HE.out hm').mono ?_; rintro e w2 ⟨rfl, hb2⟩; have HB2 : Hid _ := hb2; clear hb2))
    have zb : w.heap.size ≤ w1.heap.size := HB.out.size
    have zn : w1.heap.size < w2.heap.size := by have := HB2.out.size; simp at this; omega
    have B2 : Hid (Below w.heap.size w w2) := HB.out.trans ((((Below.refl _ _).alloc (Nat.le_refl _) _).trans (HB2.out.mono (by simp))).mono HB.out.size)
    have X2 : Hid (BxAt w2 w1.heap.size nm names ks ins outs (FN f)) := BxAt.below (w := w1.alloc (.cells #[.string nm, .string names, .string ks, .int .i64 ins, .int .i64 outs, FN f] 51)) ⟨by simp, by simp, by simp, by simp, by simp, by simp⟩ HB2.out
    clear HB2 HV1
    go_loopw [31] (fun i wr => ∃ k : Nat, k ≤ n ∧ i = .int .i64 k ∧ Below w.heap.size w wr ∧ BxAt wr w1.heap.size nm names ks ins outs (FN f) ∧ NBk wr w2.heap.size (prt n k fun i => nmV (v i).k (v i).b)) (fun i _ => n - (intOf i).toNat)
    case atStart => exact ⟨0, Nat.zero_le _, rfl, B2.out.alloc (by omega) _, X2.out.below ((Below.refl _ _).alloc (Nat.le_refl _) _), by unfold NBk; rw [← prt_0, ← made_ints]; exact heap_alloc_last w2 _⟩
    case round =>
      obtain ⟨k, hk, rfl, hb, hx, hnb⟩ := hrel
      have z2 := hnb.lt
      have HB : Hid _ := hb
      have HX : Hid _ := hx
      have HNB : Hid (NBk wr w2.heap.size (prt n k fun i => nmV (v i).k (v i).b)) := hnb
      by_cases hlt : k < n
      · obtain ⟨d0, d1, d2⟩ := HV.out.below hb k hlt
        have O : Hid _ := HO.out k hlt
        have T : Hid _ := HT.out k hlt
        have KK : Hid (K3 (v k).k) := by show K3 _; rw [T.out.1]; exact kAt_cases ks k
        clear hb hx hnb
        go_wp2_with (first | (go_at_call 33; refine (Number_ok _ _ _ _ O.out.b0 O.out.b1 O.out.s1 T.out.2 KK.out).mono ?_; rintro e w4 ⟨rfl, hb4⟩; have HB4 : Hid _ := hb4; have nb4 := (HNB.out.alloc (.cells #[.int .u8 (v k).k, .int .u64 (v k).b, .string (v k).s] 34)).below hb4; have NB4 : Hid (NBk w4 w2.heap.size (prt n k fun i => nmV (v i).k (v i).b)) := nb4; have q1 := nb4.cell k 0 (by simp [prt, hlt]); have q2 := nb4.free k; clear hb4 nb4))
        have B4 : Hid (Below wr.heap.size wr w4) := ((Below.refl _ _).alloc (Nat.le_refl _) _).trans (HB4.out.mono (by simp))
        refine ⟨⟨k + 1, by omega, by go_num, (HB.out.trans (B4.out.mono HB.out.size)).setCell (by simp; omega) _, (HX.out.below B4.out).other (Below.heap_setCell _ _ _ _ (by simp; omega)), ?_⟩, by simp [intOf]; omega⟩
        have := NB4.out.set k (nmV (v k).k (v k).b)
        rw [prt_set n k (fun i => nmV (v i).k (v i).b) hlt] at this
        exact this
      · have ek : k = n := by omega
        subst ek
        have HNB : Hid (NBk wr w2.heap.size (nmL k v)) := by show NBk _ _ _; unfold nmL; rw [← prt_all]; exact hnb
        obtain ⟨c0, c1, c2, c3, c4, c5⟩ := hx
        clear hb hnb
        go_wp2
        refine (HS.out now w2.heap.size wr (by omega) HNB.out).mono ?_
        rintro e w5 ⟨rfl, hw⟩
        have HW : Hid (Wr wr w5 w2.heap.size (nxt K now (nmL k v))) := hw
        clear hw HNB c0 c1 c2 c3 c4 c5
        go_wp2
        have z5 : w2.heap.size < w5.heap.size := HW.out.nb.lt
        have B5 : Hid (Below w.heap.size w w5) := HB.out.trans (HW.out.below (by omega))
        have X5 : Hid (BxAt w5 w1.heap.size nm names ks ins outs (FN f)) := HX.out.other (HW.out.other _ (by omega))
        have N5 : Hid (NBk w5 w2.heap.size (nxt K now (nmL k v))) := HW.out.nb
        have L5 := HL.out now (by omega)
        have CL : Hid (clN now = now) := by show clN now = now; unfold clN; rw [if_neg (by omega), if_neg (by omega)]
        clear HW HX HB
        generalize hLL : nxt K now (nmL k v) = L at *
        obtain ⟨L1, L2⟩ := L5
        have LL : Hid (nxt K now (nmL k v) = L) := hLL
        have L2 : Hid (∀ i, i < k → fitOk (kAt ks i) (L.getD i 0) = true) := L2
        have L1 : Hid (L.length = k) := L1
        clear hLL
        go_loopw [57] (fun i wr => ∃ j : Nat, j ≤ k ∧ i = .int .i64 j ∧ Below w.heap.size w wr ∧ BxAt wr w1.heap.size nm names ks ins outs (FN f) ∧ NBk wr w2.heap.size L ∧ Row3 wr w5.heap.size k (fun i => if i < j then vlL ks L i else ⟨0, 0, ⟨#[]⟩⟩)) (fun i _ => k - (intOf i).toNat)
        case atStart => exact ⟨0, Nat.zero_le _, rfl, B5.out.alloc (by omega) _, X5.out.below ((Below.refl _ _).alloc (Nat.le_refl _) _), N5.out.alloc _, _, heap_alloc_last w5 _, Nat.le_of_eq (size_madeCells _ _).symm, fun i hi => made_vals k i hi⟩
        case round =>
          obtain ⟨j, hj, rfl, hb, hx, hnb, hr⟩ := hrel
          by_cases hlt : j < k
          · have HB : Hid _ := hb
            have HX : Hid _ := hx
            have HNB : Hid (NBk wr w2.heap.size L) := hnb
            have HR : Hid (Row3 wr w5.heap.size k (fun i => if i < j then vlL ks L i else ⟨0, 0, ⟨#[]⟩⟩)) := hr
            have d := hnb.cell j (L.getD j 0) (by rw [List.getElem?_eq_getElem (by rw [L1.out]; exact hlt)]; simp [List.getD, L1.out, hlt])
            obtain ⟨c0, c1, c2, c3, c4, c5⟩ := hx
            have zr := hr.lt
            clear hb hnb hr
            have F : Hid _ := L2.out j hlt
            have KC : Hid (K3 (kAt ks j)) := kAt_cases ks j
            generalize hx : L.getD j 0 = x at *
            go_wp2_with (first | (go_at_call 28; refine (kind_of _ _ _ _ _ _ _ _ (by have := HE.out; omega)).mono ?_; rintro e w6 ⟨rfl, hb6⟩; have HB6 : Hid _ := hb6; clear hb6) | (go_at_call 34; refine (Int_yes _ _ _ (K3_r KC.out) (K3_c KC.out) (fit_bd KC.out F.out) F.out).mono ?_; rintro e w7 ⟨rfl, hb7⟩; have HB7 : Hid _ := hb7; have R7 := (HR.out.below HB6.out).below hb7; obtain ⟨y0, y1, y2, p0, p1, p2⟩ := R7.cellsEx j hlt; have f0 := R7.free (j * 3); have f1 := R7.free (j * 3 + 1); have f2 := R7.free (j * 3 + 2); have R7' : Hid (Row3 w7 w5.heap.size k (fun i => if i < j then vlL ks L i else ⟨0, 0, ⟨#[]⟩⟩)) := R7; clear hb7 R7))
            have B6 : Hid (Below wr.heap.size wr w7) := HB6.out.trans (HB7.out.mono HB6.out.size)
            refine ⟨⟨j + 1, by omega, by go_num, (((HB.out.trans (B6.out.mono HB.out.size)).setCell (by simp; omega) _).setCell (by simp; omega) _).setCell (by simp; omega) _, (HX.out.below B6.out).other (by rw [Below.heap_setCell _ _ _ _ (by simp; omega), Below.heap_setCell _ _ _ _ (by simp; omega), Below.heap_setCell _ _ _ _ (by simp; omega)]), (((HNB.out.below B6.out).other (by simp; omega) _).other (by simp; omega) _).other (by simp; omega) _, ?_⟩, by simp [intOf]; omega⟩
            refine (R7'.out.set j hlt ⟨kAt ks j, x % 18446744073709551616, E0⟩).congr (fun i hi => ?_)
            by_cases e : i = j
            · subst e
              simp only [if_true, if_pos (Nat.lt_succ_self i), vlL, hx]
            · by_cases h : i < j
              · simp only [if_neg e, if_pos h, if_pos (Nat.lt_succ_of_lt h)]
              · simp only [if_neg e, if_neg h, if_neg (show ¬ i < j + 1 by omega)]
          · have ej : j = k := by omega
            have HB : Hid _ := hb
            have HR : Hid (Row3 wr w5.heap.size k (fun i => if i < j then vlL ks L i else ⟨0, 0, ⟨#[]⟩⟩)) := hr
            clear hb hx hnb hr
            go_wp2
            go_ret2
            refine ⟨w5.heap.size, rfl, by omega, ?_, HB.out⟩
            rw [CL.out, LL.out]
            exact HR.out.congr (fun i hi => if_pos (by omega))
  · go_enter Tryd.func18, Tryd.ntmps18
    go_wp2_with (first | (go_at_call 25; refine (HN.out _).mono ?_; rintro e w1 ⟨rfl, hb⟩; have HB : Hid _ := hb; have VB := HV.out.below hb; have HV1 : Hid (VsAt (w1.alloc (.cells #[.string nm, .string names, .string ks, .int .i64 ins, .int .i64 outs, FN f] 51)) a n v) := VB.below ((Below.refl _ _).alloc (Nat.le_refl w1.heap.size) _); clear VB hb) | (refine wpList_store_row rfl 51 _ _ rfl w1.heap.size _ rfl rfl _ _ (heap_alloc_last w1 _) blk_info rfl (by kernel_rfl) ?_; rw [World.setRow_alloc_new]) | (go_at_call 32; refine (takes_yes _ _ _ _ _ _ _ _ _ v _ HV1.out HO.out HE.out hm').mono ?_; rintro e w2 ⟨rfl, hb2⟩; have HB2 : Hid _ := hb2; clear hb2))
    have zb : w.heap.size ≤ w1.heap.size := HB.out.size
    have zn : w1.heap.size < w2.heap.size := by have := HB2.out.size; simp at this; omega
    have B2 : Hid (Below w.heap.size w w2) := HB.out.trans ((((Below.refl _ _).alloc (Nat.le_refl _) _).trans (HB2.out.mono (by simp))).mono HB.out.size)
    have X2 : Hid (BxAt w2 w1.heap.size nm names ks ins outs (FN f)) := BxAt.below (w := w1.alloc (.cells #[.string nm, .string names, .string ks, .int .i64 ins, .int .i64 outs, FN f] 51)) ⟨by simp, by simp, by simp, by simp, by simp, by simp⟩ HB2.out
    clear HB2 HV1
    go_loopw [31] (fun i wr => ∃ k : Nat, k ≤ n ∧ i = .int .i64 k ∧ Below w.heap.size w wr ∧ BxAt wr w1.heap.size nm names ks ins outs (FN f) ∧ NBk wr w2.heap.size (prt n k fun i => nmV (v i).k (v i).b)) (fun i _ => n - (intOf i).toNat)
    case atStart => exact ⟨0, Nat.zero_le _, rfl, B2.out.alloc (by omega) _, X2.out.below ((Below.refl _ _).alloc (Nat.le_refl _) _), by unfold NBk; rw [← prt_0, ← made_ints]; exact heap_alloc_last w2 _⟩
    case round =>
      obtain ⟨k, hk, rfl, hb, hx, hnb⟩ := hrel
      have z2 := hnb.lt
      have HB : Hid _ := hb
      have HX : Hid _ := hx
      have HNB : Hid (NBk wr w2.heap.size (prt n k fun i => nmV (v i).k (v i).b)) := hnb
      by_cases hlt : k < n
      · obtain ⟨d0, d1, d2⟩ := HV.out.below hb k hlt
        have O : Hid _ := HO.out k hlt
        have T : Hid _ := HT.out k hlt
        have KK : Hid (K3 (v k).k) := by show K3 _; rw [T.out.1]; exact kAt_cases ks k
        clear hb hx hnb
        go_wp2_with (first | (go_at_call 33; refine (Number_ok _ _ _ _ O.out.b0 O.out.b1 O.out.s1 T.out.2 KK.out).mono ?_; rintro e w4 ⟨rfl, hb4⟩; have HB4 : Hid _ := hb4; have nb4 := (HNB.out.alloc (.cells #[.int .u8 (v k).k, .int .u64 (v k).b, .string (v k).s] 34)).below hb4; have NB4 : Hid (NBk w4 w2.heap.size (prt n k fun i => nmV (v i).k (v i).b)) := nb4; have q1 := nb4.cell k 0 (by simp [prt, hlt]); have q2 := nb4.free k; clear hb4 nb4))
        have B4 : Hid (Below wr.heap.size wr w4) := ((Below.refl _ _).alloc (Nat.le_refl _) _).trans (HB4.out.mono (by simp))
        refine ⟨⟨k + 1, by omega, by go_num, (HB.out.trans (B4.out.mono HB.out.size)).setCell (by simp; omega) _, (HX.out.below B4.out).other (Below.heap_setCell _ _ _ _ (by simp; omega)), ?_⟩, by simp [intOf]; omega⟩
        have := NB4.out.set k (nmV (v k).k (v k).b)
        rw [prt_set n k (fun i => nmV (v i).k (v i).b) hlt] at this
        exact this
      · have ek : k = n := by omega
        subst ek
        have HNB : Hid (NBk wr w2.heap.size (nmL k v)) := by show NBk _ _ _; unfold nmL; rw [← prt_all]; exact hnb
        obtain ⟨c0, c1, c2, c3, c4, c5⟩ := hx
        clear hb hnb
        go_wp2
        refine (HS.out 4611686018427387904 w2.heap.size wr (by omega) HNB.out).mono ?_
        rintro e w5 ⟨rfl, hw⟩
        have HW : Hid (Wr wr w5 w2.heap.size (nxt K 4611686018427387904 (nmL k v))) := hw
        clear hw HNB c0 c1 c2 c3 c4 c5
        go_wp2
        have z5 : w2.heap.size < w5.heap.size := HW.out.nb.lt
        have B5 : Hid (Below w.heap.size w w5) := HB.out.trans (HW.out.below (by omega))
        have X5 : Hid (BxAt w5 w1.heap.size nm names ks ins outs (FN f)) := HX.out.other (HW.out.other _ (by omega))
        have N5 : Hid (NBk w5 w2.heap.size (nxt K 4611686018427387904 (nmL k v))) := HW.out.nb
        have L5 := HL.out 4611686018427387904 (by omega)
        have CL : Hid (clN now = 4611686018427387904) := by show clN now = 4611686018427387904; unfold clN; rw [if_neg (by omega), if_pos hnow]
        clear HW HX HB
        generalize hLL : nxt K 4611686018427387904 (nmL k v) = L at *
        obtain ⟨L1, L2⟩ := L5
        have LL : Hid (nxt K 4611686018427387904 (nmL k v) = L) := hLL
        have L2 : Hid (∀ i, i < k → fitOk (kAt ks i) (L.getD i 0) = true) := L2
        have L1 : Hid (L.length = k) := L1
        clear hLL
        go_loopw [57] (fun i wr => ∃ j : Nat, j ≤ k ∧ i = .int .i64 j ∧ Below w.heap.size w wr ∧ BxAt wr w1.heap.size nm names ks ins outs (FN f) ∧ NBk wr w2.heap.size L ∧ Row3 wr w5.heap.size k (fun i => if i < j then vlL ks L i else ⟨0, 0, ⟨#[]⟩⟩)) (fun i _ => k - (intOf i).toNat)
        case atStart => exact ⟨0, Nat.zero_le _, rfl, B5.out.alloc (by omega) _, X5.out.below ((Below.refl _ _).alloc (Nat.le_refl _) _), N5.out.alloc _, _, heap_alloc_last w5 _, Nat.le_of_eq (size_madeCells _ _).symm, fun i hi => made_vals k i hi⟩
        case round =>
          obtain ⟨j, hj, rfl, hb, hx, hnb, hr⟩ := hrel
          by_cases hlt : j < k
          · have HB : Hid _ := hb
            have HX : Hid _ := hx
            have HNB : Hid (NBk wr w2.heap.size L) := hnb
            have HR : Hid (Row3 wr w5.heap.size k (fun i => if i < j then vlL ks L i else ⟨0, 0, ⟨#[]⟩⟩)) := hr
            have d := hnb.cell j (L.getD j 0) (by rw [List.getElem?_eq_getElem (by rw [L1.out]; exact hlt)]; simp [List.getD, L1.out, hlt])
            obtain ⟨c0, c1, c2, c3, c4, c5⟩ := hx
            have zr := hr.lt
            clear hb hnb hr
            have F : Hid _ := L2.out j hlt
            have KC : Hid (K3 (kAt ks j)) := kAt_cases ks j
            generalize hx : L.getD j 0 = x at *
            go_wp2_with (first | (go_at_call 28; refine (kind_of _ _ _ _ _ _ _ _ (by have := HE.out; omega)).mono ?_; rintro e w6 ⟨rfl, hb6⟩; have HB6 : Hid _ := hb6; clear hb6) | (go_at_call 34; refine (Int_yes _ _ _ (K3_r KC.out) (K3_c KC.out) (fit_bd KC.out F.out) F.out).mono ?_; rintro e w7 ⟨rfl, hb7⟩; have HB7 : Hid _ := hb7; have R7 := (HR.out.below HB6.out).below hb7; obtain ⟨y0, y1, y2, p0, p1, p2⟩ := R7.cellsEx j hlt; have f0 := R7.free (j * 3); have f1 := R7.free (j * 3 + 1); have f2 := R7.free (j * 3 + 2); have R7' : Hid (Row3 w7 w5.heap.size k (fun i => if i < j then vlL ks L i else ⟨0, 0, ⟨#[]⟩⟩)) := R7; clear hb7 R7))
            have B6 : Hid (Below wr.heap.size wr w7) := HB6.out.trans (HB7.out.mono HB6.out.size)
            refine ⟨⟨j + 1, by omega, by go_num, (((HB.out.trans (B6.out.mono HB.out.size)).setCell (by simp; omega) _).setCell (by simp; omega) _).setCell (by simp; omega) _, (HX.out.below B6.out).other (by rw [Below.heap_setCell _ _ _ _ (by simp; omega), Below.heap_setCell _ _ _ _ (by simp; omega), Below.heap_setCell _ _ _ _ (by simp; omega)]), (((HNB.out.below B6.out).other (by simp; omega) _).other (by simp; omega) _).other (by simp; omega) _, ?_⟩, by simp [intOf]; omega⟩
            refine (R7'.out.set j hlt ⟨kAt ks j, x % 18446744073709551616, E0⟩).congr (fun i hi => ?_)
            by_cases e : i = j
            · subst e
              simp only [if_true, if_pos (Nat.lt_succ_self i), vlL, hx]
            · by_cases h : i < j
              · simp only [if_neg e, if_pos h, if_pos (Nat.lt_succ_of_lt h)]
              · simp only [if_neg e, if_neg h, if_neg (show ¬ i < j + 1 by omega)]
          · have ej : j = k := by omega
            have HB : Hid _ := hb
            have HR : Hid (Row3 wr w5.heap.size k (fun i => if i < j then vlL ks L i else ⟨0, 0, ⟨#[]⟩⟩)) := hr
            clear hb hx hnb hr
            go_wp2
            go_ret2
            refine ⟨w5.heap.size, rfl, by omega, ?_, HB.out⟩
            rw [CL.out, LL.out]
            exact HR.out.congr (fun i hi => if_pos (by omega))
end
end Go.Proofs.YtjnegbjgogkamaaDoor
