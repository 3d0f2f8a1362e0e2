/- image: by what a check sum is changed, of each byte, exactly; no statement of the seat is proved here. -/
import Derived.Test.YtkickdmomompjaaGreatAwAK
import Derived.Test.YtkickdmomompjaaGreatKoA1
import Derived.Deep.DeepCutAuto
namespace Go.Proofs.YtkickdmomompjaaGreat
set_option linter.unusedVariables false
open Go.RowKit
/-- What eight steps do to a byte. -/
def taB (j : Nat) : BitVec 32 := crN 8 (BitVec.ofNat 32 j)
theorem crN_snoc (n : Nat) (c : BitVec 32) : crN (n + 1) c = crS (crN n c) := by
  induction n generalizing c with
  | zero => rfl
  | succ n ih => exact ih (crS c)
theorem u3_nat (k : Nat) (h : k < 256) : uW (BitVec.ofNat 32 k) = k := by
  unfold uW
  rw [BitVec.toNat_ofNat]
  omega
theorem half_2 (a : BitVec 32) : uW a / (2 : Int) = uW (a >>> 1) := by
  unfold uW
  rw [BitVec.toNat_ushiftRight, Nat.shiftRight_eq_div_pow]
  omega
theorem crS_odd {c : BitVec 32} (h : c.getLsbD 0 = true) : crS c = (c >>> 1) ^^^ 3988292384#32 := by unfold crS; rw [if_pos h]
theorem poly_u3 : uW 3988292384#32 = 3988292384 := by decide
/-- A block whose first k numbers are the table's. -/
def Tx (k g : Nat) (V : World) : Prop := ∃ cs, V.heap[g]? = some (.cells cs 77 (0, 0)) ∧ U256 cs ∧ ∀ j : Nat, j < k → cs[j]? = some (.int .u32 (uW (taB j)))
theorem Tx.tb {k g : Nat} {V : World} (h : Tx k g V) : Tb g V := by obtain ⟨cs, h1, h2, _⟩ := h; exact ⟨cs, h1, h2⟩
theorem Tx.set {k g : Nat} {V : World} (h : Tx k g V) (hk : k < 256) : Tx (k + 1) g (V.setCell ⟨g, k, none⟩ (.int .u32 (uW (taB k)))) := by
  obtain ⟨cs, h1, h2, h3⟩ := h
  refine ⟨cs.setIfInBounds k (.int .u32 (uW (taB k))), by simp [World.setCell, Array.getElem?_modify, h1], u256_set h2 k _, fun j hj => ?_⟩
  by_cases e : k = j
  · subst e
    simp [h2.1, hk]
  · simp [e, h3 j (by omega)]
set_option maxRecDepth 20000 in
set_option maxHeartbeats 4000000 in
theorem byteChangesX_of (w : World) : Calls Tryz.prog 32 #[] w fun e w' => (∃ cs : Array Value, e = .returned (.agg cs) ∧ U256 cs ∧ ∀ j : Nat, j < 256 → cs[j]? = some (.int .u32 (uW (taB j)))) ∧ Below w.heap.size w w' := by
  obtain ⟨AW, eW⟩ : ∃ AW, AW = (w.alloc (.cells Tryz.zeroCells77 77)).alloc (.cells Tryz.zeroCells77 77) := ⟨_, rfl⟩
  have T0 : Hid (Tb w.heap.size AW) := by rw [eW]; exact ⟨_, (tv_at w _ _).1, u256_zero⟩
  have T1 : Hid (Tx 0 (w.heap.size + 1) AW) := by rw [eW]; exact ⟨_, (tv_at w _ _).2, u256_zero, fun j hj => absurd hj (Nat.not_lt_zero _)⟩
  have AB : Hid (Below w.heap.size w AW) := by rw [eW]; exact ((Below.refl _ _).alloc (Nat.le_refl _) _).alloc (by simp) _
  go_enter Tryz.func32, Tryz.ntmps32
  go_upto_region 2 with fail
  rw [← eW]
  clear eW
  go_upto_region 3 with fail
  go_loopw [5] (fun i wr => ∃ k : Nat, k ≤ 256 ∧ i = .int .i64 k ∧ Below w.heap.size w wr ∧ Tb w.heap.size wr ∧ Tx k (w.heap.size + 1) wr) (fun i _ => 256 - (intOf i).toNat)
  case atStart => exact ⟨0, Nat.zero_le _, rfl, AB.out, T0.out, T1.out⟩
  case round =>
    obtain ⟨k, hk, rfl, hbw, h0, h1⟩ := hrel
    have HW : Hid (Below w.heap.size w wr) := hbw
    have H0 : Hid (Tb w.heap.size wr) := h0
    have H1 : Hid (Tx k (w.heap.size + 1) wr) := h1
    clear hbw h0 h1 T0 T1 AB
    by_cases hlt : k < 256
    · have kl : (k : Int) < 256 := by omega
      have LT : Hid (k < 256) := hlt
      have ek : wrap64 ((k : Int) + 1) = (k : Int) + 1 := by unfold wrap64; omega
      clear hlt
      go_upto_region 6 with fail
      go_upto_region 7 with fail
      obtain ⟨WO, eO⟩ : ∃ W, W = wr := ⟨_, rfl⟩
      subst eO
      go_loopw [3, 10] (fun c j wr => ∃ q : Nat, q ≤ 8 ∧ c = .int .u32 (uW (crN q (BitVec.ofNat 32 k))) ∧ j = .int .i64 q ∧ wr = WO) (fun _ j _ => 8 - (intOf j).toNat)
      case atStart => exact ⟨0, Nat.zero_le _, by rw [show crN 0 (BitVec.ofNat 32 k) = BitVec.ofNat 32 k from rfl, u3_nat k LT.out]; first | done | rfl | (congr 1; have := LT.out; omega), rfl, rfl⟩
      case round =>
        obtain ⟨q, hq, rfl, rfl, hw⟩ := hrel
        rw [hw]
        clear hw wr
        by_cases qlt : q < 8
        · have ql : (q : Int) < 8 := by omega
          have QL : Hid (q < 8) := qlt
          have eq1 : wrap64 ((q : Int) + 1) = (q : Int) + 1 := by unfold wrap64; omega
          clear qlt hq
          go_upto_region 8 with fail
          have NX : Hid (crN (q + 1) (BitVec.ofNat 32 k) = crS (crN q (BitVec.ofNat 32 k))) := crN_snoc _ _
          generalize crN q (BitVec.ofNat 32 k) = c at *
          have hr := uW_range c
          have hm : (uW c).tmod 2 = uW c % 2 := Int.tmod_eq_emod_of_nonneg hr.1
          cases hb : c.getLsbD 0
          · have m0 : uW c % 2 = 0 := by
              have := mt (odd_u3 c).1 (by rw [hb]; simp)
              omega
            have EN : Hid (crN (q + 1) (BitVec.ofNat 32 k) = c >>> 1) := NX.out.trans (crS_low hb)
            clear NX hb
            go_wp2
            refine ⟨⟨q + 1, Nat.succ_le_of_lt QL.out, ?_, rfl, trivial⟩, msr QL.out⟩
            rw [EN.out, half_2]
          · have m1 : uW c % 2 = 1 := (odd_u3 c).2 hb
            have EN : Hid (crN (q + 1) (BitVec.ofNat 32 k) = (c >>> 1) ^^^ 3988292384#32) := NX.out.trans (crS_odd hb)
            clear NX hb
            go_wp2
            refine ⟨⟨q + 1, Nat.succ_le_of_lt QL.out, ?_, rfl, trivial⟩, msr QL.out⟩
            rw [EN.out, half_2, ← xor_u3, poly_u3]
        · have ql : ¬ (q : Int) < 8 := by omega
          clear qlt
          obtain ⟨n0, f0⟩ := H1.out.tb.cell k LT.out
          have fz := H1.out.tb.frozen k
          have e8 : q = 8 := by omega
          subst e8
          have S0 : Hid (Tb w.heap.size (WO.setCell ⟨w.heap.size + 1, k, none⟩ (.int .u32 (uW (crN 8 (BitVec.ofNat 32 k))))) ∧ Tx (k + 1) (w.heap.size + 1) (WO.setCell ⟨w.heap.size + 1, k, none⟩ (.int .u32 (uW (crN 8 (BitVec.ofNat 32 k))))) ∧ Below w.heap.size w (WO.setCell ⟨w.heap.size + 1, k, none⟩ (.int .u32 (uW (crN 8 (BitVec.ofNat 32 k)))))) := ⟨H0.out.other (by omega) _ _, H1.out.set LT.out, HW.out.setCell (p := ⟨w.heap.size + 1, k, none⟩) (Nat.le_succ _) _⟩
          go_wp2
          try rw [ek]
          refine ⟨?_, msr LT.out⟩
          first
            | exact ⟨k + 1, Nat.succ_le_of_lt LT.out, rfl, S0.out.2.2, S0.out.1, S0.out.2.1⟩
            | ((repeat apply Exists.intro); refine ⟨?_, rfl⟩; exact ⟨k + 1, Nat.succ_le_of_lt LT.out, rfl, S0.out.2.2, S0.out.1, S0.out.2.1⟩)
    · have kl : ¬ (k : Int) < 256 := by omega
      go_upto_region 15 with fail
      obtain ⟨cs, c1, c2, c3⟩ := H1.out
      obtain ⟨ds, d1, d2⟩ := H0.out
      go_wp2_with (first
        | (refine wpList_load_row rfl 77 _ rfl (w.heap.size + 1) rfl _ cs (0, 0) _ c1 Tryz.underlying77 rfl (by rw [c2.1]; exact u256_info) ?_)
        | (refine wpList_store_row rfl 77 _ _ rfl w.heap.size cs rfl rfl _ ds d1 (by rw [c2.1]; exact u256_info) (by rw [c2.1, d2.1]) (u256_one c2) ?_))
      exact bodyPost_ret (v := .agg cs) (results_cell_row Tryz.results32 _ _ w.heap.size _ _ (0, 0) _ (by first | rfl | simp [Act.put]) (setRow_heap _ _ _ _ _ _ d1) Tryz.underlying77 rfl (by rw [c2.1]; exact u256_info)) rfl ⟨⟨cs, rfl, c2, fun j hj => c3 j (by omega)⟩, row_bel HW.out (Nat.le_refl _) _⟩
end Go.Proofs.YtkickdmomompjaaGreat
