/- What named answers for a name of the table; no statement of the seat is proved here. -/
import Derived.Test.YtkanhbokdjppoaaGreatDoorStdV
namespace Go.Proofs.YtkanhbokdjppoaaGreatDoor
set_option linter.unusedVariables false
open Go.RowKit
set_option maxRecDepth 20000 in
set_option maxHeartbeats 2000000 in
theorem named_K (K : Nat) (h1 : 1 ≤ K) (h2 : K < 37) (nm : ByteArray) (he : (fuT K).nm = nm) (hn : ∀ k, 1 ≤ k → k < K → ((fuT k).nm.toList == nm.toList) = false) (w : World) :
    Calls Tryz.prog 22 #[.string nm] w fun e w' => e = .returned (.tuple #[.int .i64 K, .int .u8 0]) ∧ Below w.heap.size w w' := by
  have HE : Hid _ := he
  have HN : Hid _ := hn
  clear he hn
  go_enter Tryz.func22, Tryz.ntmps22
  go_wp2_with (first | (go_at_call 37; refine (functions_of _).mono ?_; rintro e w1 ⟨rfl, hb⟩; have HB : Hid _ := hb; clear hb))
  go_loopw [15] (fun i wr => ∃ k : Nat, k ≤ K ∧ i = .int .i64 k ∧ Below w.heap.size w wr) (fun i _ => K - (intOf i).toNat)
  case atStart => exact ⟨0, Nat.zero_le _, rfl, HB.out⟩
  case round =>
    obtain ⟨k, hk, rfl, hb⟩ := hrel
    have ix := fu_atK k (by omega)
    have k37 : (k : Int) < 37 := by omega
    have HB : Hid (Below w.heap.size w wr) := hb
    clear hb
    by_cases hlt : k < K
    · have HNk : Hid (1 ≤ k → ((fuT k).nm.toList == nm.toList) = false) := fun h => HN.out k h hlt
      generalize fuT k = f at *
      obtain ⟨nm', fm', nx', hw', tk', gv'⟩ := f
      by_cases h0 : k = 0
      · subst h0
        clear ix HNk
        have ix : ∀ w, (Instr.index 67 (.agg fuCells) (.int .i64 0)).run Tryz.prog w = .ok (.agg #[.string ⟨#[]⟩, .string ⟨#[]⟩, .int .i64 0, .int .i64 0, .nilFunc, .nilFunc]) w := fun w => by kernel_rfl
        go_wp2_with (refine wpList_store_row rfl 54 _ _ rfl wr.heap.size _ rfl rfl _ _ (heap_alloc_last wr _) fun_info rfl (by kernel_rfl) ?_; rw [World.setRow_alloc_new])
        exact ⟨⟨1, by omega, rfl, HB.out.alloc HB.out.size _⟩, by simp [intOf]; omega⟩
      · have hn := HNk.out (by omega)
        have kp : (0 : Int) < k := by omega
        clear HNk
        cases tk' <;> cases gv'
        all_goals
          simp only [FV, FO] at ix
          go_wp2_with (refine wpList_store_row rfl 54 _ _ rfl wr.heap.size _ rfl rfl _ _ (heap_alloc_last wr _) fun_info rfl (by kernel_rfl) ?_; rw [World.setRow_alloc_new])
          exact ⟨⟨k + 1, by omega, by go_num, HB.out.alloc HB.out.size _⟩, by simp [intOf]; omega⟩
    · obtain rfl : k = K := by omega
      have he := HE.out
      generalize fuT k = f at *
      obtain ⟨nm', fm', nx', hw', tk', gv'⟩ := f
      simp only at he
      subst he
      have kp : (0 : Int) < k := by omega
      clear HN HE
      cases tk' <;> cases gv'
      all_goals
        simp only [FV, FO] at ix
        go_wp2_with (refine wpList_store_row rfl 54 _ _ rfl wr.heap.size _ rfl rfl _ _ (heap_alloc_last wr _) fun_info rfl (by kernel_rfl) ?_; rw [World.setRow_alloc_new])
        go_ret2
        exact ⟨rfl, HB.out.alloc HB.out.size _⟩
end Go.Proofs.YtkanhbokdjppoaaGreatDoor
