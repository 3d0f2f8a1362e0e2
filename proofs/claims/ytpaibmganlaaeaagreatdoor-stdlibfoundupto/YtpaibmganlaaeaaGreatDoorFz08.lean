/- Which kinds arithmetic takes; no statement of the seat is proved here. -/
import Derived.Test.YtpaibmganlaaeaaGreatDoorFz04
import Derived.Test.YtpaibmganlaaeaaGreatDoorFz07
import Derived.Deep.RegionHeld3
import Derived.Deep.DeepCutAuto
namespace Go.Proofs.YtpaibmganlaaeaaGreatDoor
set_option linter.unusedVariables false
open Go.RowKit
/-- The kind of a value in an answer, and the fault. -/
def kndA (v : Value) : Int := match v with
  | .tuple #[.agg #[.int _ k, _, _], _] => k
  | _ => -1
def fltA (v : Value) : Int := match v with
  | .tuple #[_, .int _ f] => f
  | _ => -1
theorem rk_all : ∀ op : Fin 9, ∀ a b : Fin 20, 1 ≤ op.val → kndA (reckR (op.val : Int) (smK (a.val : Int)) (smB (a.val : Int)) (smK (b.val : Int)) (smB (b.val : Int)) E0 E0) = resK (op.val : Int) (a.val : Int) (b.val : Int) := by decide +kernel
theorem reck_frm (op k b k' c : Int) (s t : ByteArray) : ∃ K B S f, reckR op k b k' c s t = .tuple #[V K B S, .int .i64 f] := by
  unfold reckR nR
  repeat' split
  all_goals exact ⟨_, _, _, _, rfl⟩
theorem resK_out (op a b : Int) (h1 : 1 ≤ op ∧ op ≤ 8) (h : ¬ (1 ≤ a ∧ a ≤ 19) ∨ ¬ (1 ≤ b ∧ b ≤ 19)) : resK op a b = 0 := by
  unfold resK
  (repeat' split) <;> omega
theorem smK_out (k : Int) (h : ¬ (1 ≤ k ∧ k ≤ 19)) : smK k = 0 := by
  unfold smK smO zeroK
  have e : decide (1 ≤ k ∧ k ≤ 17) = false := decide_eq_false (by omega)
  rw [e]
  simp
  omega
/-- What two kinds' samples come to has the kind that the document tells. -/
theorem rk_some (op a b : Int) (h1 : 1 ≤ op ∧ op ≤ 8) (ha : 0 ≤ a ∧ a < 256) (hb : 0 ≤ b ∧ b < 256) : ∃ B S f, reckR op (smK a) (smB a) (smK b) (smB b) E0 E0 = .tuple #[V (resK op a b) B S, .int .i64 f] := by
  by_cases c : (1 ≤ a ∧ a ≤ 19) ∧ (1 ≤ b ∧ b ≤ 19)
  · obtain ⟨K, B, S, f, e⟩ := reck_frm op (smK a) (smB a) (smK b) (smB b) E0 E0
    have q := rk_all ⟨op.toNat, by omega⟩ ⟨a.toNat, by omega⟩ ⟨b.toNat, by omega⟩ (by show 1 ≤ op.toNat; omega)
    simp only at q
    rw [show ((op.toNat : Nat) : Int) = op by omega, show ((a.toNat : Nat) : Int) = a by omega, show ((b.toNat : Nat) : Int) = b by omega, e] at q
    have : K = resK op a b := q
    subst this
    exact ⟨B, S, f, e⟩
  · rw [resK_out op a b h1 (by omega)]
    refine ⟨0, E0, 8, ?_⟩
    unfold reckR
    rw [if_pos]
    by_cases d : 1 ≤ a ∧ a ≤ 19
    · right
      rw [smK_out b (by omega)]
      simp [may3, mayW]
    · left
      rw [smK_out a d]
      simp [may3, mayW]
/-- What an operation gives of kinds. -/
def rcN (op : Int) (n : Nat) (κ : Nat → Int) : Int := if 2 < n ∧ comK n κ ≠ resK op (κ 0) (κ 1) then 0 else resK op (κ 0) (κ 1)
set_option maxRecDepth 20000 in
set_option maxHeartbeats 4000000 in
theorem reckoned_of (op : Int) (g n cap : Nat) (κ : Nat → Int) (w : World) (h1 : 1 ≤ op ∧ op ≤ 8) (hk : KsAt w ⟨g, 0, none⟩ n κ) (h2 : 2 ≤ n) (hn : n < 1000000) (r0 : 0 ≤ κ 0 ∧ κ 0 < 256) (r1 : 0 ≤ κ 1 ∧ κ 1 < 256) :
    Calls Tryz.prog 35 #[.int .i64 op, .slice (some ⟨g, 0, none⟩) n cap] w fun e w' => e = .returned (.int .u8 (rcN op n κ)) ∧ Below w.heap.size w w' := by
  have d0 : w.cell? ⟨g, 0, none⟩ = some (.int .u8 (κ 0)) := hk 0 (by omega)
  have d1 : w.cell? ⟨g, 1, none⟩ = some (.int .u8 (κ 1)) := hk 1 (by omega)
  have p0 : (0 : Int) < n := by omega
  have p1 : (1 : Int) < n := by omega
  have q0 : 0 < n := by omega
  have q1 : 1 < n := by omega
  have C : Hid (∀ W, Below w.heap.size w W → Calls Tryz.prog 88 #[.slice (some ⟨g, 0, none⟩) n cap] W fun e w' => e = .returned (.int .u8 (comK n κ)) ∧ Below W.heap.size W w') := fun W hb => common_of _ n cap κ W (hk.below hb) hn (by omega)
  have S0 : Hid (∀ w, Calls Tryz.prog 87 #[.int .u8 (κ 0)] w fun e w' => e = .returned (V (smK (κ 0)) (smB (κ 0)) E0) ∧ Below w.heap.size w w') := fun w => sample_of (κ 0) w r0
  have S1 : Hid (∀ w, Calls Tryz.prog 87 #[.int .u8 (κ 1)] w fun e w' => e = .returned (V (smK (κ 1)) (smB (κ 1)) E0) ∧ Below w.heap.size w w') := fun w => sample_of (κ 1) w r1
  have rg0 := sm_rg (κ 0) r0
  have rg1 := sm_rg (κ 1) r1
  obtain ⟨B, S, f, T'⟩ : ∃ B S f, ∀ w, Calls Tryz.prog 86 #[.int .i64 op, V (smK (κ 0)) (smB (κ 0)) E0, V (smK (κ 1)) (smB (κ 1)) E0] w fun e w' => e = .returned (.tuple #[V (resK op (κ 0) (κ 1)) B S, .int .i64 f]) ∧ Below w.heap.size w w' := by
    obtain ⟨B, S, f, e⟩ := rk_some op (κ 0) (κ 1) h1 r0 r1
    exact ⟨B, S, f, fun w => by rw [← e]; exact Reckon_of op _ _ _ _ _ _ w rg0.2.2.1 rg0.2.2.2 ⟨rg0.1, rg0.2.1⟩ (by decide) rg1.2.2.1 rg1.2.2.2 ⟨rg1.1, rg1.2.1⟩ (by decide)⟩
  have TT : Hid _ := T'
  clear T' rg0 rg1 r0 r1 hk
  unfold rcN
  generalize comK n κ = c at *
  generalize κ 0 = k0 at *
  generalize κ 1 = k1 at *
  generalize resK op k0 k1 = r at *
  generalize smK k0 = sk0 at *
  generalize smB k0 = sb0 at *
  generalize smK k1 = sk1 at *
  generalize smB k1 = sb1 at *
  obtain ⟨RR, hR⟩ : ∃ R, (if 2 < n ∧ c ≠ r then (0 : Int) else r) = R := ⟨_, rfl⟩
  rw [hR]
  have HR : Hid ((if 2 < n ∧ c ≠ r then (0 : Int) else r) = RR) := hR
  clear hR
  have zg : g < w.heap.size := block_lt_of_cell d0
  have e1 := World.new_ne w ⟨g, 0, none⟩ d0
  go_enter Tryz.func35, Tryz.ntmps35
  go_wp2_with fail
  go_cut [5] (fun s5 wx => ∃ h5, s5 = .pointer (some ⟨h5, 0, none⟩) ∧ wx.cell? ⟨h5, 0, none⟩ = some (.int .u8 r) ∧ w.heap.size ≤ h5 ∧ Below w.heap.size w wx)
  case first =>
    go_region_held3 (fun w' => w'.cell? ⟨g, 0, none⟩ = some (.int .u8 k0) ∧ w'.cell? ⟨g, 1, none⟩ = some (.int .u8 k1)) (go_keep)
      (first | (go_at_call_of 87 k0; refine (S0.out _).mono ?_; rintro e w4 ⟨rfl, hb4⟩; obtain ⟨c4, f4⟩ := bcell hb4; have s4 := hb4.size; (try simp at s4); have g4 : g < w4.heap.size := (by omega); have d4 : ¬ w4.heap.size = g := (by omega); (try have u4w : w.heap.size < w4.heap.size := (by omega)); have B4 : Below w.heap.size w w4 := (by first | exact ((Below.refl _ _).drew).trans (hb4.mono (by first | omega | (simp; omega) | simp)) | exact (((Below.refl _ _).drew).alloc (by first | omega | (simp; omega) | simp) _).trans (hb4.mono (by first | omega | (simp; omega) | simp)) | exact (((Below.refl _ _).alloc (Nat.le_refl _) _).drew).trans (hb4.mono (by first | omega | (simp; omega) | simp)) | exact ((Below.refl _ _).alloc (Nat.le_refl _) _).trans (hb4.mono (by first | omega | (simp; omega) | simp)) | exact hb4); have o4 := (B4.cell (p := ⟨g, 0, none⟩) zg).trans d0; have r4 := (B4.cell (p := ⟨g, 1, none⟩) zg).trans d1) | (go_at_call_of 87 k1; refine (S1.out _).mono ?_; rintro e w5 ⟨rfl, hb5⟩; obtain ⟨c5, f5⟩ := bcell hb5; have s5 := hb5.size; (try simp at s5); have g5 : g < w5.heap.size := (by omega); have d5 : ¬ w5.heap.size = g := (by omega); (try have u5w : w.heap.size < w5.heap.size := (by omega)); (try have u5w4 : w4.heap.size < w5.heap.size := (by omega)); have B5 : Below w.heap.size w w5 := (by first | exact (B4).trans (hb5.mono (by first | omega | (simp; omega) | simp)) | exact ((B4).alloc (by first | omega | (simp; omega) | simp) _).trans (hb5.mono (by first | omega | (simp; omega) | simp))); have o5 := (B5.cell (p := ⟨g, 0, none⟩) zg).trans d0; have r5 := (B5.cell (p := ⟨g, 1, none⟩) zg).trans d1) | (go_at_call 86; refine (TT.out _).mono ?_; rintro e w6 ⟨rfl, hb6⟩; obtain ⟨c6, f6⟩ := bcell hb6; have s6 := hb6.size; (try simp at s6); have g6 : g < w6.heap.size := (by omega); have d6 : ¬ w6.heap.size = g := (by omega); (try have u6w : w.heap.size < w6.heap.size := (by omega)); (try have u6w4 : w4.heap.size < w6.heap.size := (by omega)); (try have u6w5 : w5.heap.size < w6.heap.size := (by omega)); have B6 : Below w.heap.size w w6 := (by first | exact (B5).trans (hb6.mono (by first | omega | (simp; omega) | simp)) | exact ((B5).alloc (by first | omega | (simp; omega) | simp) _).trans (hb6.mono (by first | omega | (simp; omega) | simp))); have o6 := (B6.cell (p := ⟨g, 0, none⟩) zg).trans d0; have r6 := (B6.cell (p := ⟨g, 1, none⟩) zg).trans d1))
    all_goals
      go_wp2_with fail
      go_meet
      case rel =>
        first
          | exact ⟨_, rfl, by simp, by omega, B6.alloc (by omega) _⟩
          | (have k6 : w6.cell? ⟨w5.heap.size, 0, none⟩ = some (.int .u8 0) := (by rw [c6 w5.heap.size 0 (by first | omega | (simp; omega) | simp)]; simp)
             exact ⟨_, rfl, by simp [go_sem, k6], by first | exact Nat.le_refl _ | omega, ((B6.setCell (by first | exact Nat.le_refl _ | omega | (simp; omega) | simp) _).setCell (by first | exact Nat.le_refl _ | omega | (simp; omega) | simp) _).setCell (by first | exact Nat.le_refl _ | omega | (simp; omega) | simp) _⟩)
          | (have k6 : w6.cell? ⟨w4.heap.size, 0, none⟩ = some (.int .u8 0) := (by rw [c6 w4.heap.size 0 (by first | omega | (simp; omega) | simp), c5 w4.heap.size 0 (by first | omega | (simp; omega) | simp)]; simp)
             exact ⟨_, rfl, by simp [go_sem, k6], by first | exact Nat.le_refl _ | omega, ((B6.setCell (by first | exact Nat.le_refl _ | omega | (simp; omega) | simp) _).setCell (by first | exact Nat.le_refl _ | omega | (simp; omega) | simp) _).setCell (by first | exact Nat.le_refl _ | omega | (simp; omega) | simp) _⟩)
          | (have k6 : w6.cell? ⟨w.heap.size, 0, none⟩ = some (.int .u8 0) := (by rw [c6 w.heap.size 0 (by first | omega | (simp; omega) | simp), c5 w.heap.size 0 (by first | omega | (simp; omega) | simp), c4 w.heap.size 0 (by first | omega | (simp; omega) | simp)]; simp)
             exact ⟨_, rfl, by simp [go_sem, k6], by first | exact Nat.le_refl _ | omega, ((B6.setCell (by first | exact Nat.le_refl _ | omega | (simp; omega) | simp) _).setCell (by first | exact Nat.le_refl _ | omega | (simp; omega) | simp) _).setCell (by first | exact Nat.le_refl _ | omega | (simp; omega) | simp) _⟩)
  case rest =>
    obtain ⟨h5, rfl, a0, l5, hb⟩ := hcut
    have HB : Hid (Below w.heap.size w wc) := hb
    have L5 : h5 < wc.heap.size := block_lt_of_cell a0
    clear hb
    have c5 : ∀ x : Sub wc, x.w.cell? ⟨h5, 0, none⟩ = some (.int .u8 r) := fun x => by rw [x.h.cell (p := ⟨h5, 0, none⟩) L5]; exact a0
    by_cases h3 : 2 < n
    · have h3' : (2 : Int) < n := by omega
      obtain ⟨p, ep⟩ : ∃ p, (c != r) = p := ⟨_, rfl⟩
      have R0 : Hid ((if p = true then 0 else r) = RR) := by
        show _ = _
        rw [← HR.out]
        cases p
        · have : ¬ c ≠ r := by simpa using ep
          rw [if_neg (by decide), if_neg (fun q => this q.2)]
        · have : c ≠ r := by simpa using ep
          rw [if_pos rfl, if_pos ⟨h3, this⟩]
      clear HR
      go_wp2_with fail
      refine wp_region_sub2 (by kernel_rfl) (by kernel_rfl) ?_
      intro cx
      repeat (first | go_big_quiet_skip | (go_big_quiet_want; go_big_quiet_op; first | go_big_quiet_on | (refine ⟨_, fun _ => rfl, ?_⟩; go_big_quiet_on) | go_big_quiet_call (first | (go_at_call 88; exact calls_sub (C.out _ (HB.out.trans ((Sub.h _).mono HB.out.size)))))))
      refine wpQuiet_nil ?_
      rintro _ ⟨y, rfl⟩
      have Y : Hid (Below w.heap.size w y.w) := HB.out.trans (y.h.mono HB.out.size)
      have y5 := c5 y
      clear cx
      cases p
      · go_wp2
        go_ret
        exact ⟨by rw [← R0.out]; rfl, Y.out⟩
      · go_wp2
        go_ret
        exact ⟨by rw [← R0.out]; rfl, Y.out⟩
    · obtain rfl : n = 2 := by omega
      have R0 : Hid (r = RR) := by
        show _ = _
        rw [← HR.out, if_neg (fun q => h3 q.1)]
      clear HR
      go_wp2_with fail
      refine wp_region_sub2 (by kernel_rfl) (by kernel_rfl) ?_
      intro cx
      repeat (first | go_big_quiet_skip | (go_big_quiet_want; go_big_quiet_op; first | go_big_quiet_on | (refine ⟨_, fun _ => rfl, ?_⟩; go_big_quiet_on) | go_big_quiet_call (first | (go_at_call 88; exact calls_sub (C.out _ (HB.out.trans ((Sub.h _).mono HB.out.size)))))))
      refine wpQuiet_nil ?_
      rintro _ ⟨y, rfl⟩
      have Y : Hid (Below w.heap.size w y.w) := HB.out.trans (y.h.mono HB.out.size)
      have y5 := c5 y
      clear cx
      go_wp2
      go_ret
      exact ⟨by rw [← R0.out]; rfl, Y.out⟩
end Go.Proofs.YtpaibmganlaaeaaGreatDoor
