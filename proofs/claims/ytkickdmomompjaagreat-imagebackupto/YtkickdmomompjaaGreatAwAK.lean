/- image: by what a check sum is changed, of each byte (no more than that they are such numbers); no statement of the seat is proved here. -/
import Derived.Test.YtkickdmomompjaaGreatCkIK
import Derived.Deep.MidRow
import Derived.Deep.DeepCutAuto
namespace Go.Proofs.YtkickdmomompjaaGreat
set_option linter.unusedVariables false
open Go.RowKit
/-- Are these 256 numbers? -/
def U256 (cs : Array Value) : Prop := cs.size = 256 ∧ ∀ j : Nat, j < 256 → ∃ n, cs[j]? = some (.int .u32 n)
/-- A block that has 256 numbers. -/
def Tb (g : Nat) (V : World) : Prop := ∃ cs, V.heap[g]? = some (.cells cs 77 (0, 0)) ∧ U256 cs
theorem u256_zero : U256 Tryz.zeroCells77 := by
  rw [show Tryz.zeroCells77 = Array.replicate 256 (.int .u32 0) by kernel_rfl]
  exact ⟨by simp, fun j hj => ⟨0, by simp [hj]⟩⟩
theorem u256_one {cs : Array Value} (h : U256 cs) : cs.all (·.oneCell') = true := by
  rw [Array.all_eq_true]
  intro j hj
  obtain ⟨n, hn⟩ := h.2 j (by rw [← h.1]; exact hj)
  rw [Array.getElem?_eq_getElem hj, Option.some.injEq] at hn
  rw [hn]; rfl
theorem u256_info : (Tryz.prog.info? 77).map (·.size) = some 256 := by kernel_rfl
theorem u256_set {cs : Array Value} (h : U256 cs) (k : Nat) (n : Int) : U256 (cs.setIfInBounds k (.int .u32 n)) := by
  refine ⟨by simp [h.1], fun j hj => ?_⟩
  by_cases e : k = j
  · subst e
    exact ⟨n, by simp [h.1, hj]⟩
  · obtain ⟨q, hq⟩ := h.2 j hj
    exact ⟨q, by simp [e, hq]⟩
theorem Tb.cell {g : Nat} {V : World} (h : Tb g V) (k : Nat) (hk : k < 256) : ∃ n, V.cell? ⟨g, k, none⟩ = some (.int .u32 n) := by
  obtain ⟨cs, h1, h2, h3⟩ := h
  obtain ⟨n, hn⟩ := h3 k hk
  exact ⟨n, by simp [World.cell?, h1, hn]⟩
theorem Tb.set {g : Nat} {V : World} (h : Tb g V) (k : Nat) (n : Int) : Tb g (V.setCell ⟨g, k, none⟩ (.int .u32 n)) := by
  obtain ⟨cs, h1, h2⟩ := h
  exact ⟨_, by simp [World.setCell, Array.getElem?_modify, h1], u256_set h2 k n⟩
theorem Tb.other {g g' : Nat} {V : World} (h : Tb g V) (hne : g ≠ g') (k : Nat) (v : Value) : Tb g (V.setCell ⟨g', k, none⟩ v) := by
  obtain ⟨cs, h1, h2⟩ := h
  exact ⟨cs, by rw [Below.heap_setCell _ _ _ _ hne]; exact h1, h2⟩
theorem Tb.frozen {g : Nat} {V : World} (h : Tb g V) (k : Nat) : V.frozen? ⟨g, k, none⟩ = false := by
  obtain ⟨cs, h1, h2⟩ := h
  simp [World.frozen?, h1]
theorem Tb.below {g : Nat} {V V' : World} (h : Tb g V) (hb : Below V.heap.size V V') : Tb g V' := by
  obtain ⟨cs, h1, h2⟩ := h
  exact ⟨cs, (hb.block _ (blk_in h1)).trans h1, h2⟩
set_option maxRecDepth 20000 in
set_option maxHeartbeats 4000000 in
theorem byteChanges_of (w : World) : Calls Tryz.prog 32 #[] w fun e w' => (∃ cs : Array Value, e = .returned (.agg cs) ∧ U256 cs) ∧ Below w.heap.size w w' := by
  obtain ⟨AW, eW⟩ : ∃ AW, AW = (w.alloc (.cells Tryz.zeroCells77 77)).alloc (.cells Tryz.zeroCells77 77) := ⟨_, rfl⟩
  have T0 : Hid (Tb w.heap.size AW) := by rw [eW]; exact ⟨_, (tv_at w _ _).1, u256_zero⟩
  have T1 : Hid (Tb (w.heap.size + 1) AW) := by rw [eW]; exact ⟨_, (tv_at w _ _).2, u256_zero⟩
  have AB : Hid (Below w.heap.size w AW) := by rw [eW]; exact ((Below.refl _ _).alloc (Nat.le_refl _) _).alloc (by simp) _
  go_enter Tryz.func32, Tryz.ntmps32
  go_upto_region 2 with fail
  rw [← eW]
  clear eW
  go_upto_region 3 with fail
  go_loopw [5] (fun i wr => ∃ k : Nat, k ≤ 256 ∧ i = .int .i64 k ∧ Below w.heap.size w wr ∧ Tb w.heap.size wr ∧ Tb (w.heap.size + 1) wr) (fun i _ => 256 - (intOf i).toNat)
  case atStart => exact ⟨0, Nat.zero_le _, rfl, AB.out, T0.out, T1.out⟩
  case round =>
    obtain ⟨k, hk, rfl, hbw, h0, h1⟩ := hrel
    have HW : Hid (Below w.heap.size w wr) := hbw
    have H0 : Hid (Tb w.heap.size wr) := h0
    have H1 : Hid (Tb (w.heap.size + 1) wr) := h1
    clear hbw h0 h1 T0 T1 AB
    by_cases hlt : k < 256
    · have kl : (k : Int) < 256 := by omega
      have LT : Hid (k < 256) := hlt
      have ek : wrap64 ((k : Int) + 1) = (k : Int) + 1 := by unfold wrap64; omega
      clear hlt
      go_upto_region 6 with fail
      go_upto_region 7 with fail
      obtain ⟨WO, eO⟩ : ∃ W, W = wr := ⟨_, rfl⟩
      subst eO
      go_loopw [3, 10] (fun c j wr => ∃ (q : Nat) (n : Int), q ≤ 8 ∧ c = .int .u32 n ∧ j = .int .i64 q ∧ wr = WO) (fun _ j _ => 8 - (intOf j).toNat)
      case atStart => exact ⟨0, _, Nat.zero_le _, rfl, rfl, rfl⟩
      case round =>
        obtain ⟨q, n, hq, rfl, rfl, hw⟩ := hrel
        rw [hw]
        clear hw wr
        by_cases qlt : q < 8
        · have ql : (q : Int) < 8 := by omega
          have QL : Hid (q < 8) := qlt
          have eq1 : wrap64 ((q : Int) + 1) = (q : Int) + 1 := by unfold wrap64; omega
          clear qlt hq
          go_upto_region 8 with fail
          go_cut [4] (fun s4 wx => ∃ b : Bool, s4 = .bool b ∧ wx = WO)
          case first =>
            go_wp2
            go_meet
            case rel => exact ⟨_, rfl, rfl⟩
          case rest =>
            obtain ⟨b, rfl, hc⟩ := hcut
            rw [hc]
            clear hc wc
            cases b
            all_goals
              go_wp2
              try rw [eq1]
              refine ⟨?_, msr QL.out⟩
              exact ⟨q + 1, _, Nat.succ_le_of_lt QL.out, rfl, rfl, trivial⟩
        · have ql : ¬ (q : Int) < 8 := by omega
          clear qlt hq
          obtain ⟨n0, f0⟩ := H1.out.cell k LT.out
          have fz := H1.out.frozen k
          have S0 : Hid (∀ x, Tb w.heap.size (WO.setCell ⟨w.heap.size + 1, k, none⟩ (.int .u32 x)) ∧ Tb (w.heap.size + 1) (WO.setCell ⟨w.heap.size + 1, k, none⟩ (.int .u32 x)) ∧ Below w.heap.size w (WO.setCell ⟨w.heap.size + 1, k, none⟩ (.int .u32 x))) := fun x => ⟨H0.out.other (by omega) _ _, H1.out.set _ _, HW.out.setCell (p := ⟨w.heap.size + 1, k, none⟩) (Nat.le_succ _) _⟩
          go_wp2
          try rw [ek]
          refine ⟨?_, msr LT.out⟩
          first
            | exact ⟨k + 1, Nat.succ_le_of_lt LT.out, rfl, (S0.out _).2.2, (S0.out _).1, (S0.out _).2.1⟩
            | ((repeat apply Exists.intro); refine ⟨?_, rfl⟩; exact ⟨k + 1, Nat.succ_le_of_lt LT.out, rfl, (S0.out _).2.2, (S0.out _).1, (S0.out _).2.1⟩)
    · have kl : ¬ (k : Int) < 256 := by omega
      go_upto_region 15 with fail
      obtain ⟨cs, c1, c2⟩ := H1.out
      obtain ⟨ds, d1, d2⟩ := H0.out
      go_wp2_with (first
        | (refine wpList_load_row rfl 77 _ rfl (w.heap.size + 1) rfl _ cs (0, 0) _ c1 Tryz.underlying77 rfl (by rw [c2.1]; exact u256_info) ?_)
        | (refine wpList_store_row rfl 77 _ _ rfl w.heap.size cs rfl rfl _ ds d1 (by rw [c2.1]; exact u256_info) (by rw [c2.1, d2.1]) (u256_one c2) ?_))
      exact bodyPost_ret (v := .agg cs) (results_cell_row Tryz.results32 _ _ w.heap.size _ _ (0, 0) _ (by first | rfl | simp [Act.put]) (setRow_heap _ _ _ _ _ _ d1) Tryz.underlying77 rfl (by rw [c2.1]; exact u256_info)) rfl ⟨⟨cs, rfl, c2⟩, row_bel HW.out (Nat.le_refl _) _⟩
end Go.Proofs.YtkickdmomompjaaGreat
