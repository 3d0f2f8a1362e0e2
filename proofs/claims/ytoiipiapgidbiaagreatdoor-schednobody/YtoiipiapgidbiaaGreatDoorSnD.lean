/- SchedNobody's rounds; no statement of the seat is proved here. -/
import Derived.Test.YtoiipiapgidbiaaGreatDoorSnC
import Derived.Test.YtoiipiapgidbiaaGreatDoorWnC
import Derived.Deep.Cut
namespace Go.Proofs.YtoiipiapgidbiaaGreatDoor
set_option linter.unusedVariables false
set_option linter.unusedSimpArgs false
open Go.RowKit
theorem two_list (w : World) (a b : Value) (t : TypeId) : ∀ (k : Nat), k < 2 → (w.alloc (.cells #[a, b] t)).cell? ⟨w.heap.size, k, none⟩ = some (if k = 0 then a else b) := fun k hk => by
  rcases (show k = 0 ∨ k = 1 by omega) with rfl | rfl <;> simp
set_option maxRecDepth 20000 in
set_option maxHeartbeats 8000000 in
theorem nobody_walk (AK : ∀ W, Calls Tryz.prog 15 #[] W fun e w' => e = .returned (.bool true) ∧ Below W.heap.size W w') (n k b : Int) (s : ByteArray) (x : Option Addr) (m c : Nat) (w : World) (hx : InAt w x m) (h0 : x = none → c = 0) (hb : m * 48 ≤ 140737488351232) :
    Calls Tryz.prog 3 #[.int .i64 n, .agg #[.int .u8 k, .int .u64 b, .string s], .slice x m c] w fun e w' => e = .returned (.bool true) ∧ Below w.heap.size w w' := by
  have HA : Hid (∀ W, Calls Tryz.prog 15 #[] W fun e w' => e = .returned (.bool true) ∧ Below W.heap.size W w') := AK
  have CL : Hid (∀ W, Below w.heap.size w W → Calls Tryz.prog 5 #[.slice x m c] W fun e w' => (∃ y k d, e = .returned (.slice y k d)) ∧ Below W.heap.size W w') := fun W h => CloneI x m c W (hx.up h) h0 hb
  clear hx h0 hb AK
  obtain ⟨W1, e1⟩ : ∃ W, W = w.alloc (.cells #[.int .u8 k, .int .u64 b, .string s] 25) := ⟨_, rfl⟩
  have B1 : Hid (Below w.heap.size w W1) := by rw [e1]; exact al_bel _ _
  have V1 : Hid (VBx W1 w.heap.size k b s) := by rw [e1]; exact ⟨by simp, by simp, by simp⟩
  obtain ⟨W2, e2⟩ : ∃ W, W = W1.alloc (.cells #[.int .i32 0, .int .u32 0, .pointer none] 37) := ⟨_, rfl⟩
  obtain ⟨g2, eg2⟩ : ∃ g, g = w.heap.size + 1 := ⟨_, rfl⟩
  have s1 : W1.heap.size = w.heap.size + 1 := by rw [e1]; simp
  have B2 : Hid (Below w.heap.size w W2) := by rw [e2]; exact B1.out.trans ((al_bel _ _).mono B1.out.size)
  have V2 : Hid (VBx W2 w.heap.size k b s) := by rw [e2]; exact V1.out.next (al_bel _ _)
  have R2 : Hid (RnN W2 (.pointer (some ⟨g2, 0, none⟩))) := .inr ⟨g2, rfl, by rw [e2, eg2, ← s1]; simp⟩
  obtain ⟨W3, e3⟩ : ∃ W, W = W2.alloc (.cells #[.pointer none, .pointer (some ⟨g2, 0, none⟩)] 27) := ⟨_, rfl⟩
  obtain ⟨g3, eg3⟩ : ∃ g, g = g2 + 1 := ⟨_, rfl⟩
  have s2 : W2.heap.size = w.heap.size + 1 + 1 := by rw [e2]; simp [s1]
  have B3 : Hid (Below w.heap.size w W3) := by rw [e3]; exact B2.out.trans ((al_bel _ _).mono B2.out.size)
  have V3 : Hid (VBx W3 w.heap.size k b s) := by rw [e3]; exact V2.out.next (al_bel _ _)
  have R3 : Hid (RnN W3 (.pointer (some ⟨g2, 0, none⟩))) := by rw [e3]; exact R2.out.below (al_bel _ _)
  have L3 : Hid (∀ (j : Nat), j < 2 → W3.cell? ⟨g3, j, none⟩ = some (if j = 0 then .pointer none else .pointer (some ⟨g2, 0, none⟩))) := by rw [e3, eg3, eg2, ← s2]; exact two_list _ _ _ _
  clear V1 V2 R2 B1 B2
  go_enter Tryz.func3, Tryz.ntmps3
  go_upto_region 2 with fail
  rw [← e1]
  try rw [s1]
  rw [← e2]
  try rw [← eg2]
  rw [← e3]
  try rw [s2]
  try rw [← eg2]
  try rw [← eg3]
  clear e1 e2 e3 eg2 eg3 s1 s2
  go_loopw [15] (fun i wr => ∃ k : Nat, k ≤ 2 ∧ i = .int .i64 k ∧ Below W3.heap.size W3 wr) (fun i _ => 2 - (intOf i).toNat)
  case atStart => exact ⟨0, by omega, rfl, Below.refl _ _⟩
  case round =>
    obtain ⟨j, hj, rfl, hW⟩ := hrel
    have BW : Hid (Below w.heap.size w wr) := B3.out.trans (hW.mono B3.out.size)
    have VW : Hid (VBx wr w.heap.size k b s) := V3.out.next hW
    have RW : Hid (RnN wr (.pointer (some ⟨g2, 0, none⟩))) := R3.out.below hW
    have WW : Hid (Below W3.heap.size W3 wr) := hW
    by_cases hlt : j < 2
    · have c0 := L3.out j hlt
      have c1 : wr.cell? ⟨g3, j, none⟩ = some (if j = 0 then .pointer none else .pointer (some ⟨g2, 0, none⟩)) := (hW.cell (p := ⟨g3, j, none⟩) (block_lt_of_cell c0)).trans c0
      have RR : Hid (RnN wr (if j = 0 then .pointer none else .pointer (some ⟨g2, 0, none⟩))) := by
        show RnN wr _
        by_cases h : j = 0
        · rw [if_pos h]; exact .inl rfl
        · rw [if_neg h]; exact RW.out
      generalize (if j = 0 then Value.pointer none else Value.pointer (some ⟨g2, 0, none⟩)) = r at *
      have jl : (j : Int) < 2 := by omega
      have JL : Hid (j < 2) := hlt
      clear c0 hW hj hlt RW
      go_wp2_with fail
      refine (CL.out _ BW.out).mono ?_
      rintro e w1 ⟨⟨y, yk, yd, rfl⟩, hb⟩
      have X1 : Hid (Below wr.heap.size wr w1) := hb
      clear hb
      go_wp2_with fail
      refine (REntry_no r n y yk yd _ (RR.out.below X1.out)).mono ?_
      rintro e w2 ⟨rfl, hb⟩
      have X2 : Hid (Below wr.heap.size wr w2) := X1.out.trans (hb.mono X1.out.size)
      clear hb X1
      go_upto_region 5 with fail
      obtain ⟨W2, eW⟩ : ∃ W, W = w2.alloc (.cells zr 42) := ⟨_, rfl⟩
      obtain ⟨g, eg⟩ : ∃ g, g = w2.heap.size := ⟨_, rfl⟩
      try rw [← eW]
      try rw [← eg]
      have A2 : Below w2.heap.size w2 W2 := by rw [eW]; exact al_bel _ _
      have X3 : Hid (Below wr.heap.size wr W2) := X2.out.trans (A2.mono X2.out.size)
      have R2 : Hid (RBx W2 g) := by rw [eW, eg]; exact RBx.new _ _
      clear A2 eW eg X2
      have r0 := R2.out 0 _ rfl
      have r1 := R2.out 1 _ rfl
      have r2 := R2.out 2 _ rfl
      have r3 := R2.out 3 _ rfl
      have r4 := R2.out 4 _ rfl
      have r5 := R2.out 5 _ rfl
      have r6 := R2.out 6 _ rfl
      go_wp2_with fail
      refine (rep_same _).mono ?_
      rintro e w3 ⟨rfl, hb⟩
      have Y3 : Hid (Below wr.heap.size wr w3) := X3.out.trans (hb.mono X3.out.size)
      clear hb X3 R2 r0 r1 r2 r3 r4 r5 r6
      go_wp2_with fail
      refine (RStart_no r _ (RR.out.below Y3.out)).mono ?_
      rintro e w4 ⟨rfl, hb⟩
      have Y4 : Hid (Below wr.heap.size wr w4) := Y3.out.trans (hb.mono Y3.out.size)
      clear hb Y3
      go_wp2_with fail
      refine (RStop_no r _ (RR.out.below Y4.out)).mono ?_
      rintro e w5 ⟨rfl, hb⟩
      have Y5 : Hid (Below wr.heap.size wr w5) := Y4.out.trans (hb.mono Y4.out.size)
      clear hb Y4
      go_upto_region 7 with fail
      go_wp2_with fail
      obtain ⟨nb, enb⟩ : ∃ nb, nb = decide (0 < n) := ⟨_, rfl⟩
      try rw [← enb]
      refine (RReset_no r _ (RR.out.below Y5.out) _).mono ?_
      rintro e w6 ⟨rfl, hb⟩
      have Y6 : Hid (Below wr.heap.size wr w6) := Y5.out.trans (hb.mono Y5.out.size)
      clear hb Y5
      obtain ⟨v0, v1, v2⟩ := VW.out.next Y6.out
      go_wp2_with fail
      refine (RPoke_no r _ (RR.out.below Y6.out) _ _ _ _).mono ?_
      rintro e w7 ⟨rfl, hb⟩
      have Y7 : Hid (Below wr.heap.size wr w7) := Y6.out.trans (hb.mono Y6.out.size)
      clear hb Y6
      clear v0 v1 v2
      go_wp2_with fail
      refine (RNow_no r _ (RR.out.below Y7.out)).mono ?_
      rintro e w8 ⟨rfl, hb⟩
      have Y8 : Hid (Below wr.heap.size wr w8) := Y7.out.trans (hb.mono Y7.out.size)
      clear hb Y7
      go_wp2_with fail
      refine (RMode_no r _ (RR.out.below Y8.out)).mono ?_
      rintro e w9 ⟨rfl, hb⟩
      have Y9 : Hid (Below wr.heap.size wr w9) := Y8.out.trans (hb.mono Y8.out.size)
      clear hb Y8
      go_wp2_with fail
      refine (RCells_no r _ (RR.out.below Y9.out)).mono ?_
      rintro e w10 ⟨rfl, hb⟩
      have Y10 : Hid (Below wr.heap.size wr w10) := Y9.out.trans (hb.mono Y9.out.size)
      clear hb Y9
      go_wp2_with fail
      refine (ROutputs_no r _ (RR.out.below Y10.out)).mono ?_
      rintro e w11 ⟨rfl, hb⟩
      have Y11 : Hid (Below wr.heap.size wr w11) := Y10.out.trans (hb.mono Y10.out.size)
      clear hb Y10
      go_wp2
      exact ⟨⟨j + 1, by have := JL.out; omega, rfl, WW.out.trans (Y11.out.mono WW.out.size)⟩, by have := JL.out; show 2 - ((j : Int) + 1).toNat < 2 - (j : Int).toNat; omega⟩
    · have ej : j = 2 := by omega
      subst ej
      clear hlt hW hj
      go_wp2_with fail
      refine (HA.out _).mono ?_
      rintro e w9 ⟨rfl, hb⟩
      have B9 : Hid (Below w.heap.size w w9) := BW.out.trans (hb.mono BW.out.size)
      clear hb
      go_wp2
      go_ret
      exact ⟨rfl, B9.out⟩
end Go.Proofs.YtoiipiapgidbiaaGreatDoor
