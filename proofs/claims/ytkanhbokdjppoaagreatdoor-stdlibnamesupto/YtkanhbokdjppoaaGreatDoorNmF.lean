/- Name, of both sides, for every number; no statement of the seat is proved here. -/
import Derived.Test.YtkanhbokdjppoaaGreatDoorNmE
import Derived.Test.YtkanhbokdjppoaaGreatDoorNmC
namespace Go.Proofs.YtkanhbokdjppoaaGreatDoor
set_option linter.unusedVariables false
open Go.RowKit
theorem field_nm (nm fm : ByteArray) (nx hw : Int) (tk gv : Option Nat) (w : World) : (Instr.field 54 (FV ⟨nm, fm, nx, hw, tk, gv⟩) 0).run Tryz.prog w = .ok (.string nm) w := by kernel_rfl
set_option maxRecDepth 20000 in
set_option maxHeartbeats 1000000 in
theorem Name_of (z : Int) (w : World) (hk : KW w) : Calls Tryz.prog 13 #[.int .i64 z] w fun e w' => e = .returned (.string (fuA z).nm) ∧ Below w.heap.size w w' := by
  have N : Hid _ := fun w hw => numbered_any z w hw
  have HK : Hid (KW w) := hk
  clear hk
  generalize fuA z = f at *
  obtain ⟨nm, fm, nx, hw, tk, gv⟩ := f
  have fl := field_nm nm fm nx hw tk gv
  go_enter Tryz.func13, Tryz.ntmps13
  go_wp2_with (first | (go_at_call 23; refine (N.out _ HK.out).mono ?_; rintro e w1 ⟨rfl, hb⟩; have HB : Hid _ := hb; clear hb))
  go_ret
  exact ⟨rfl, HB.out⟩
set_option maxRecDepth 20000 in
set_option maxHeartbeats 1000000 in
theorem NameR_of (z : Int) (w : World) : Calls Tryz.prog 14 #[.int .i64 z] w fun e w' => e = .returned (.string (fuA z).nm) ∧ Below w.heap.size w w' := by
  have R : Hid _ := namesR_of
  by_cases a : 65 ≤ z ∧ z < 84
  · have e : (fuA z).nm = ⟨#[84, 79, 95]⟩ ++ kw (z - 64).toNat := by unfold fuA; rw [if_neg (by omega), if_pos (by omega)]; rfl
    rw [e]
    obtain ⟨n, rfl⟩ : ∃ n : Nat, z = 64 + (n : Int) := ⟨(z - 64).toNat, by omega⟩
    have e2 : (64 + (n : Int) - 64).toNat = n := by omega
    rw [e2]
    clear e e2
    have g1 : (1 : Int) ≤ n := by omega
    have g2 : (n : Int) ≤ 19 := by omega
    have W : Hid (∀ (x : Int) w, x = n → Calls Tryz.prog 30 #[.int .u8 x] w fun e w' => e = .returned (.string (kw n)) ∧ Below w.heap.size w w') := fun x w hx => by
      subst hx; have := WordR_of n w (by omega); rwa [wd_kw n (by omega)] at this
    have cc : ∀ w, (Op.stringOp .add ⟨#[84, 79, 95]⟩ (kw n)).run Tryz.prog w = .ok (.string (⟨#[84, 79, 95]⟩ ++ kw n)) w := fun w => run_string_add_sum w _ _ (by have := kw_size n; have e : (⟨#[84, 79, 95]⟩ : ByteArray).size = 3 := rfl; omega)
    clear a
    go_enter Tryz.func14, Tryz.ntmps14
    go_wp2_with (first | (go_at_call 30; refine (W.out _ _ (by first | rfl | omega | (simp; done) | (simp; omega))).mono ?_; rintro e w1 ⟨rfl, hb⟩; have HB : Hid _ := hb; clear hb))
    go_ret
    exact ⟨rfl, HB.out⟩
  · by_cases b : z < 1 ∨ 36 < z
    · have e : (fuA z).nm = ⟨#[]⟩ := by unfold fuA; rw [if_neg (by omega), if_neg (by omega)]; rfl
      rw [e]
      clear e
      rcases b with b | b
      · go_enter Tryz.func14, Tryz.ntmps14
        go_wp2
        go_ret
        exact ⟨rfl, Below.refl _ _⟩
      · have b1 : ¬ z < 1 := by omega
        have b2 : ¬ z < 37 := by omega
        have b3 : z < 65 ∨ 84 ≤ z := by omega
        clear a
        rcases b3 with b3 | b3
        all_goals
          go_enter Tryz.func14, Tryz.ntmps14
          go_wp2_with (first | (go_at_call 31; refine (R.out _).mono ?_; rintro e w1 ⟨rfl, hr, hb⟩; have HB : Hid _ := hb; clear hb hr))
          go_ret
          exact ⟨rfl, HB.out⟩
    · obtain ⟨n, rfl⟩ : ∃ n : Nat, z = n := ⟨z.toNat, by omega⟩
      have e : (fuA (n : Int)).nm = (fuT n).nm := by unfold fuA; rw [if_pos (by omega)]; rfl
      rw [e]
      have b1 : (1 : Int) ≤ n := by omega
      have b2 : (n : Int) < 37 := by omega
      have hn : n < 37 := by omega
      clear a b e
      go_enter Tryz.func14, Tryz.ntmps14
      go_wp2_with fail
      refine (R.out _).mono ?_
      rintro e w1 ⟨rfl, hr, hb⟩
      have HB : Hid (Below w.heap.size w w1) := hb
      clear hb hr
      go_wp2_with fail
      refine (R.out _).mono ?_
      rintro e w2 ⟨rfl, hr, hb⟩
      have HB2 : Hid (Below w.heap.size w w2) := HB.out.trans (hb.mono HB.out.size)
      have d : w2.cell? ⟨w1.heap.size, n, none⟩ = some (.string (fuT n).nm) := hr n hn
      clear hb hr
      go_wp2
      go_ret
      exact ⟨rfl, HB2.out⟩
end Go.Proofs.YtkanhbokdjppoaaGreatDoor
