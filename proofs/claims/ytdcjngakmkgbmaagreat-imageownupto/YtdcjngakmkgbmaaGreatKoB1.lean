/- image: a writer of bytes in a block of its own: a byte, a number, a text; no statement of the seat is proved here. -/
import Derived.Test.YtdcjngakmkgbmaaGreatCkIK
import Derived.Deep.MidRow
import Derived.Deep.DeepCutAuto
import Derived.Test.YtdcjngakmkgbmaaGreatKoA3
import Derived.Lib.Builder
import Derived.Lib.AppendStr
import Derived.Laws.CopyOwn
import Derived.Maps.AppendAt
namespace Go.Proofs.YtdcjngakmkgbmaaGreat
set_option linter.unusedVariables false
open Go.RowKit
/-- Are these 256 numbers? -/
def U256 (cs : Array Value) : Prop := cs.size = 256 ∧ ∀ j : Nat, j < 256 → ∃ n, cs[j]? = some (.int .u32 n)
/-- A block that has 256 numbers. -/
def Tb (g : Nat) (V : World) : Prop := ∃ cs, V.heap[g]? = some (.cells cs 81 (0, 0)) ∧ U256 cs
theorem u256_zero : U256 Tryz.zeroCells81 := by
  rw [show Tryz.zeroCells81 = Array.replicate 256 (.int .u32 0) by kernel_rfl]
  exact ⟨by simp, fun j hj => ⟨0, by simp [hj]⟩⟩
theorem u256_one {cs : Array Value} (h : U256 cs) : cs.all (·.oneCell') = true := by
  rw [Array.all_eq_true]
  intro j hj
  obtain ⟨n, hn⟩ := h.2 j (by rw [← h.1]; exact hj)
  rw [Array.getElem?_eq_getElem hj, Option.some.injEq] at hn
  rw [hn]; rfl
theorem u256_info : (Tryz.prog.info? 81).map (·.size) = some 256 := by kernel_rfl
theorem u256_set {cs : Array Value} (h : U256 cs) (k : Nat) (n : Int) : U256 (cs.setIfInBounds k (.int .u32 n)) := by
  refine ⟨by simp [h.1], fun j hj => ?_⟩
  by_cases e : k = j
  · subst e
    exact ⟨n, by simp [h.1, hj]⟩
  · obtain ⟨q, hq⟩ := h.2 j hj
    exact ⟨q, by simp [e, hq]⟩
theorem Tb.cell {g : Nat} {V : World} (h : Tb g V) (k : Nat) (hk : k < 256) : ∃ n, V.cell? ⟨g, k, none⟩ = some (.int .u32 n) := by
  obtain ⟨cs, h1, h2, h3⟩ := h
  obtain ⟨n, hn⟩ := h3 k hk
  exact ⟨n, by simp [World.cell?, h1, hn]⟩
theorem Tb.set {g : Nat} {V : World} (h : Tb g V) (k : Nat) (n : Int) : Tb g (V.setCell ⟨g, k, none⟩ (.int .u32 n)) := by
  obtain ⟨cs, h1, h2⟩ := h
  exact ⟨_, by simp [World.setCell, Array.getElem?_modify, h1], u256_set h2 k n⟩
theorem Tb.other {g g' : Nat} {V : World} (h : Tb g V) (hne : g ≠ g') (k : Nat) (v : Value) : Tb g (V.setCell ⟨g', k, none⟩ v) := by
  obtain ⟨cs, h1, h2⟩ := h
  exact ⟨cs, by rw [Below.heap_setCell _ _ _ _ hne]; exact h1, h2⟩
theorem Tb.frozen {g : Nat} {V : World} (h : Tb g V) (k : Nat) : V.frozen? ⟨g, k, none⟩ = false := by
  obtain ⟨cs, h1, h2⟩ := h
  simp [World.frozen?, h1]
theorem Tb.below {g : Nat} {V V' : World} (h : Tb g V) (hb : Below V.heap.size V V') : Tb g V' := by
  obtain ⟨cs, h1, h2⟩ := h
  exact ⟨cs, (hb.block _ (blk_in h1)).trans h1, h2⟩
set_option maxRecDepth 20000 in
set_option maxHeartbeats 4000000 in
theorem byteChanges_of (w : World) : Calls Tryz.prog 32 #[] w fun e w' => (∃ cs : Array Value, e = .returned (.agg cs) ∧ U256 cs) ∧ Below w.heap.size w w' := by
  obtain ⟨AW, eW⟩ : ∃ AW, AW = (w.alloc (.cells Tryz.zeroCells81 81)).alloc (.cells Tryz.zeroCells81 81) := ⟨_, rfl⟩
  have T0 : Hid (Tb w.heap.size AW) := by rw [eW]; exact ⟨_, (tv_at w _ _).1, u256_zero⟩
  have T1 : Hid (Tb (w.heap.size + 1) AW) := by rw [eW]; exact ⟨_, (tv_at w _ _).2, u256_zero⟩
  have AB : Hid (Below w.heap.size w AW) := by rw [eW]; exact ((Below.refl _ _).alloc (Nat.le_refl _) _).alloc (by simp) _
  go_enter Tryz.func32, Tryz.ntmps32
  go_upto_region 2 with fail
  rw [← eW]
  clear eW
  go_upto_region 3 with fail
  go_loopw [5] (fun i wr => ∃ k : Nat, k ≤ 256 ∧ i = .int .i64 k ∧ Below w.heap.size w wr ∧ Tb w.heap.size wr ∧ Tb (w.heap.size + 1) wr) (fun i _ => 256 - (intOf i).toNat)
  case atStart => exact ⟨0, Nat.zero_le _, rfl, AB.out, T0.out, T1.out⟩
  case round =>
    obtain ⟨k, hk, rfl, hbw, h0, h1⟩ := hrel
    have HW : Hid (Below w.heap.size w wr) := hbw
    have H0 : Hid (Tb w.heap.size wr) := h0
    have H1 : Hid (Tb (w.heap.size + 1) wr) := h1
    clear hbw h0 h1 T0 T1 AB
    by_cases hlt : k < 256
    · have kl : (k : Int) < 256 := by omega
      have LT : Hid (k < 256) := hlt
      have ek : wrap64 ((k : Int) + 1) = (k : Int) + 1 := by unfold wrap64; omega
      clear hlt
      go_upto_region 6 with fail
      go_upto_region 7 with fail
      obtain ⟨WO, eO⟩ : ∃ W, W = wr := ⟨_, rfl⟩
      subst eO
      go_loopw [3, 10] (fun c j wr => ∃ (q : Nat) (n : Int), q ≤ 8 ∧ c = .int .u32 n ∧ j = .int .i64 q ∧ wr = WO) (fun _ j _ => 8 - (intOf j).toNat)
      case atStart => exact ⟨0, _, Nat.zero_le _, rfl, rfl, rfl⟩
      case round =>
        obtain ⟨q, n, hq, rfl, rfl, hw⟩ := hrel
        rw [hw]
        clear hw wr
        by_cases qlt : q < 8
        · have ql : (q : Int) < 8 := by omega
          have QL : Hid (q < 8) := qlt
          have eq1 : wrap64 ((q : Int) + 1) = (q : Int) + 1 := by unfold wrap64; omega
          clear qlt hq
          go_upto_region 8 with fail
          go_cut [4] (fun s4 wx => ∃ b : Bool, s4 = .bool b ∧ wx = WO)
          case first =>
            go_wp2
            go_meet
            case rel => exact ⟨_, rfl, rfl⟩
          case rest =>
            obtain ⟨b, rfl, hc⟩ := hcut
            rw [hc]
            clear hc wc
            cases b
            all_goals
              go_wp2
              try rw [eq1]
              refine ⟨?_, msr QL.out⟩
              exact ⟨q + 1, _, Nat.succ_le_of_lt QL.out, rfl, rfl, trivial⟩
        · have ql : ¬ (q : Int) < 8 := by omega
          clear qlt hq
          obtain ⟨n0, f0⟩ := H1.out.cell k LT.out
          have fz := H1.out.frozen k
          have S0 : Hid (∀ x, Tb w.heap.size (WO.setCell ⟨w.heap.size + 1, k, none⟩ (.int .u32 x)) ∧ Tb (w.heap.size + 1) (WO.setCell ⟨w.heap.size + 1, k, none⟩ (.int .u32 x)) ∧ Below w.heap.size w (WO.setCell ⟨w.heap.size + 1, k, none⟩ (.int .u32 x))) := fun x => ⟨H0.out.other (by omega) _ _, H1.out.set _ _, HW.out.setCell (p := ⟨w.heap.size + 1, k, none⟩) (Nat.le_succ _) _⟩
          go_wp2
          try rw [ek]
          refine ⟨?_, msr LT.out⟩
          first
            | exact ⟨k + 1, Nat.succ_le_of_lt LT.out, rfl, (S0.out _).2.2, (S0.out _).1, (S0.out _).2.1⟩
            | ((repeat apply Exists.intro); refine ⟨?_, rfl⟩; exact ⟨k + 1, Nat.succ_le_of_lt LT.out, rfl, (S0.out _).2.2, (S0.out _).1, (S0.out _).2.1⟩)
    · have kl : ¬ (k : Int) < 256 := by omega
      go_upto_region 15 with fail
      obtain ⟨cs, c1, c2⟩ := H1.out
      obtain ⟨ds, d1, d2⟩ := H0.out
      go_wp2_with (first
        | (refine wpList_load_row rfl 81 _ rfl (w.heap.size + 1) rfl _ cs (0, 0) _ c1 Tryz.underlying81 rfl (by rw [c2.1]; exact u256_info) ?_)
        | (refine wpList_store_row rfl 81 _ _ rfl w.heap.size cs rfl rfl _ ds d1 (by rw [c2.1]; exact u256_info) (by rw [c2.1, d2.1]) (u256_one c2) ?_))
      exact bodyPost_ret (v := .agg cs) (results_cell_row Tryz.results32 _ _ w.heap.size _ _ (0, 0) _ (by first | rfl | simp [Act.put]) (setRow_heap _ _ _ _ _ _ d1) Tryz.underlying81 rfl (by rw [c2.1]; exact u256_info)) rfl ⟨⟨cs, rfl, c2⟩, row_bel HW.out (Nat.le_refl _) _⟩
end Go.Proofs.YtdcjngakmkgbmaaGreat
namespace Go.Proofs.YtdcjngakmkgbmaaGreat
set_option linter.unusedVariables false
open Go.RowKit
theorem wrap_u8 (n : Int) : 0 ≤ IntKind.u8.wrap n ∧ IntKind.u8.wrap n < 256 := by
  show 0 ≤ n % 256 ∧ n % 256 < 256
  omega
theorem bits_u8 (op : BinOp) (x y : Int) : 0 ≤ bits op .u8 x y ∧ bits op .u8 x y < 256 := wrap_u8 _
set_option maxRecDepth 20000 in
set_option maxHeartbeats 4000000 in
theorem sumOf_of (x : Option Addr) (n c : Nat) (w : World) (hn : n ≤ 1000) (hc : ∀ k, k < n → ∃ a b, x = some a ∧ a.block < w.heap.size ∧ w.cell? (a.add k) = some (.int .u8 b)) :
    Calls Tryz.prog 12 #[.slice x n c] w fun e w' => (∃ b0 b1 b2 b3, e = .returned (.agg #[.int .u8 b0, .int .u8 b1, .int .u8 b2, .int .u8 b3])) ∧ Below w.heap.size w w' := by
  have HC : Hid (∀ k, k < n → ∃ a b, x = some a ∧ a.block < w.heap.size ∧ w.cell? (a.add k) = some (.int .u8 b)) := hc
  have HN : Hid (n ≤ 1000) := hn
  clear hc hn
  obtain ⟨AW, eW⟩ : ∃ AW, AW = w.alloc (.cells #[.int .u8 0, .int .u8 0, .int .u8 0, .int .u8 0] 60 (0, 0)) := ⟨_, rfl⟩
  have AB : Hid (Below w.heap.size w AW) := by rw [eW]; exact (Below.refl _ _).alloc (Nat.le_refl _) _
  have AX : Hid (AW.heap[w.heap.size]? = some (.cells #[.int .u8 0, .int .u8 0, .int .u8 0, .int .u8 0] 60 (0, 0))) := by rw [eW]; exact heap_alloc_last _ _
  go_enter Tryz.func12, Tryz.ntmps12
  go_upto_region 1 with fail
  rw [← eW]
  clear eW
  go_wp2_with (go_at_call 32; refine (byteChanges_of _).mono ?_)
  first | (rintro e w1 ⟨⟨cs, he, hu⟩, hb1⟩) | (rintro e w1 cs he hu hb1) | (rintro e w1 ⟨cs, he, hu⟩ hb1)
  subst he
  have U : Hid (U256 cs) := hu
  have B1 : Hid (Below AW.heap.size AW w1) := hb1
  clear hu hb1
  have Z1 : Hid ((w1.alloc (.cells Tryz.zeroCells81 81)).heap[w1.heap.size]? = some (.cells Tryz.zeroCells81 81 (0, 0))) := heap_alloc_last _ _
  go_wp2_with (refine wpList_store_row rfl 81 _ _ rfl w1.heap.size cs rfl rfl _ _ Z1.out (by rw [U.out.1]; exact u256_info) (by rw [U.out.1]; exact u256_zero.1) (u256_one U.out) ?_)
  obtain ⟨AR, eR⟩ : ∃ AR, AR = (w1.alloc (.cells Tryz.zeroCells81 81)).setRow w1.heap.size cs := ⟨_, rfl⟩
  have T1 : Hid (Tb w1.heap.size AR) := by rw [eR]; exact ⟨cs, setRow_heap _ _ _ _ _ _ Z1.out, U.out⟩
  have AR1 : Hid (Below w.heap.size w AR) := by rw [eR]; exact (AB.out.trans ((B1.out.trans (((Below.refl _ _).alloc (Nat.le_refl _) _).mono B1.out.size)).mono AB.out.size)).trans ⟨rfl, rfl, rfl, by simp [World.setRow], fun k hk => setRow_other _ _ _ _ (by have := AB.out.size; have := B1.out.size; omega)⟩
  have AX1 : Hid (AR.heap[w.heap.size]? = some (.cells #[.int .u8 0, .int .u8 0, .int .u8 0, .int .u8 0] 60 (0, 0))) := by
    have h1 : w.heap.size < AW.heap.size := blk_in AX.out
    have h2 := B1.out.size
    rw [eR, setRow_other _ _ _ _ (by omega), Below.heap_alloc _ _ _ (by omega)]
    exact (B1.out.block _ h1).trans AX.out
  try rw [← eR]
  clear eR
  go_loopw [4, 10] (fun s i wr => ∃ (k : Nat) (v : Int), k ≤ n ∧ s = .int .u32 v ∧ i = .int .i64 k ∧ wr = AR) (fun _ i _ => n - (intOf i).toNat)
  case atStart => exact ⟨0, _, Nat.zero_le _, rfl, rfl, rfl⟩
  case round =>
    obtain ⟨k, v, hk, rfl, rfl, hw⟩ := hrel
    rw [hw]
    clear hw wr
    by_cases hlt : k < n
    · obtain ⟨a, b, rfl, hab, hcell⟩ := HC.out k hlt
      have f0 : AR.cell? (a.add k) = some (.int .u8 b) := (AR1.out.cell (by rw [add_block]; exact hab)).trans hcell
      have kl : (k : Int) < n := by omega
      have LT : Hid (k < n) := hlt
      have ek : wrap64 ((k : Int) + 1) = (k : Int) + 1 := by have := HN.out; unfold wrap64; omega
      obtain ⟨x0, x1⟩ := bits_u8 .xor (v % 256) b
      obtain ⟨m, fm⟩ := T1.out.cell (bits .xor .u8 (v % 256) b).toNat (by omega)
      clear hlt hab hcell hk
      go_wp2
      try rw [ek]
      exact ⟨⟨k + 1, _, Nat.succ_le_of_lt LT.out, rfl, rfl, trivial⟩, msr LT.out⟩
    · have kl : ¬ (k : Int) < n := by omega
      clear hlt hk
      go_wp2_with (refine wpList_store_row rfl 60 _ _ rfl w.heap.size _ rfl rfl _ _ AX1.out (by kernel_rfl) rfl (by kernel_rfl) ?_)
      refine bodyPost_ret (v := .agg _) (results_cell_row Tryz.results12 _ _ w.heap.size _ _ (0, 0) _ (by first | rfl | simp [Act.put]) (setRow_heap _ _ _ _ _ _ AX1.out) Tryz.underlying60 rfl (by kernel_rfl)) rfl ⟨⟨_, _, _, _, rfl⟩, ?_⟩
      exact row_bel AR1.out (Nat.le_refl _) _
end Go.Proofs.YtdcjngakmkgbmaaGreat
namespace Go.Proofs.YtdcjngakmkgbmaaGreat
set_option linter.unusedVariables false
open Go.RowKit
/-- What eight steps do to a byte. -/
def taB (j : Nat) : BitVec 32 := crN 8 (BitVec.ofNat 32 j)
theorem crN_snoc (n : Nat) (c : BitVec 32) : crN (n + 1) c = crS (crN n c) := by
  induction n generalizing c with
  | zero => rfl
  | succ n ih => exact ih (crS c)
theorem u3_nat (k : Nat) (h : k < 256) : uW (BitVec.ofNat 32 k) = k := by
  unfold uW
  rw [BitVec.toNat_ofNat]
  omega
theorem half_2 (a : BitVec 32) : uW a / (2 : Int) = uW (a >>> 1) := by
  unfold uW
  rw [BitVec.toNat_ushiftRight, Nat.shiftRight_eq_div_pow]
  omega
theorem crS_odd {c : BitVec 32} (h : c.getLsbD 0 = true) : crS c = (c >>> 1) ^^^ 3988292384#32 := by unfold crS; rw [if_pos h]
theorem poly_u3 : uW 3988292384#32 = 3988292384 := by decide
/-- A block whose first k numbers are the table's. -/
def Tx (k g : Nat) (V : World) : Prop := ∃ cs, V.heap[g]? = some (.cells cs 81 (0, 0)) ∧ U256 cs ∧ ∀ j : Nat, j < k → cs[j]? = some (.int .u32 (uW (taB j)))
theorem Tx.tb {k g : Nat} {V : World} (h : Tx k g V) : Tb g V := by obtain ⟨cs, h1, h2, _⟩ := h; exact ⟨cs, h1, h2⟩
theorem Tx.set {k g : Nat} {V : World} (h : Tx k g V) (hk : k < 256) : Tx (k + 1) g (V.setCell ⟨g, k, none⟩ (.int .u32 (uW (taB k)))) := by
  obtain ⟨cs, h1, h2, h3⟩ := h
  refine ⟨cs.setIfInBounds k (.int .u32 (uW (taB k))), by simp [World.setCell, Array.getElem?_modify, h1], u256_set h2 k _, fun j hj => ?_⟩
  by_cases e : k = j
  · subst e
    simp [h2.1, hk]
  · simp [e, h3 j (by omega)]
set_option maxRecDepth 20000 in
set_option maxHeartbeats 4000000 in
theorem byteChangesX_of (w : World) : Calls Tryz.prog 32 #[] w fun e w' => (∃ cs : Array Value, e = .returned (.agg cs) ∧ U256 cs ∧ ∀ j : Nat, j < 256 → cs[j]? = some (.int .u32 (uW (taB j)))) ∧ Below w.heap.size w w' := by
  obtain ⟨AW, eW⟩ : ∃ AW, AW = (w.alloc (.cells Tryz.zeroCells81 81)).alloc (.cells Tryz.zeroCells81 81) := ⟨_, rfl⟩
  have T0 : Hid (Tb w.heap.size AW) := by rw [eW]; exact ⟨_, (tv_at w _ _).1, u256_zero⟩
  have T1 : Hid (Tx 0 (w.heap.size + 1) AW) := by rw [eW]; exact ⟨_, (tv_at w _ _).2, u256_zero, fun j hj => absurd hj (Nat.not_lt_zero _)⟩
  have AB : Hid (Below w.heap.size w AW) := by rw [eW]; exact ((Below.refl _ _).alloc (Nat.le_refl _) _).alloc (by simp) _
  go_enter Tryz.func32, Tryz.ntmps32
  go_upto_region 2 with fail
  rw [← eW]
  clear eW
  go_upto_region 3 with fail
  go_loopw [5] (fun i wr => ∃ k : Nat, k ≤ 256 ∧ i = .int .i64 k ∧ Below w.heap.size w wr ∧ Tb w.heap.size wr ∧ Tx k (w.heap.size + 1) wr) (fun i _ => 256 - (intOf i).toNat)
  case atStart => exact ⟨0, Nat.zero_le _, rfl, AB.out, T0.out, T1.out⟩
  case round =>
    obtain ⟨k, hk, rfl, hbw, h0, h1⟩ := hrel
    have HW : Hid (Below w.heap.size w wr) := hbw
    have H0 : Hid (Tb w.heap.size wr) := h0
    have H1 : Hid (Tx k (w.heap.size + 1) wr) := h1
    clear hbw h0 h1 T0 T1 AB
    by_cases hlt : k < 256
    · have kl : (k : Int) < 256 := by omega
      have LT : Hid (k < 256) := hlt
      have ek : wrap64 ((k : Int) + 1) = (k : Int) + 1 := by unfold wrap64; omega
      clear hlt
      go_upto_region 6 with fail
      go_upto_region 7 with fail
      obtain ⟨WO, eO⟩ : ∃ W, W = wr := ⟨_, rfl⟩
      subst eO
      go_loopw [3, 10] (fun c j wr => ∃ q : Nat, q ≤ 8 ∧ c = .int .u32 (uW (crN q (BitVec.ofNat 32 k))) ∧ j = .int .i64 q ∧ wr = WO) (fun _ j _ => 8 - (intOf j).toNat)
      case atStart => exact ⟨0, Nat.zero_le _, by rw [show crN 0 (BitVec.ofNat 32 k) = BitVec.ofNat 32 k from rfl, u3_nat k LT.out]; first | done | rfl | (congr 1; have := LT.out; omega), rfl, rfl⟩
      case round =>
        obtain ⟨q, hq, rfl, rfl, hw⟩ := hrel
        rw [hw]
        clear hw wr
        by_cases qlt : q < 8
        · have ql : (q : Int) < 8 := by omega
          have QL : Hid (q < 8) := qlt
          have eq1 : wrap64 ((q : Int) + 1) = (q : Int) + 1 := by unfold wrap64; omega
          clear qlt hq
          go_upto_region 8 with fail
          have NX : Hid (crN (q + 1) (BitVec.ofNat 32 k) = crS (crN q (BitVec.ofNat 32 k))) := crN_snoc _ _
          generalize crN q (BitVec.ofNat 32 k) = c at *
          have hr := uW_range c
          have hm : (uW c).tmod 2 = uW c % 2 := Int.tmod_eq_emod_of_nonneg hr.1
          cases hb : c.getLsbD 0
          · have m0 : uW c % 2 = 0 := by
              have := mt (odd_u3 c).1 (by rw [hb]; simp)
              omega
            have EN : Hid (crN (q + 1) (BitVec.ofNat 32 k) = c >>> 1) := NX.out.trans (crS_low hb)
            clear NX hb
            go_wp2
            refine ⟨⟨q + 1, Nat.succ_le_of_lt QL.out, ?_, rfl, trivial⟩, msr QL.out⟩
            rw [EN.out, half_2]
          · have m1 : uW c % 2 = 1 := (odd_u3 c).2 hb
            have EN : Hid (crN (q + 1) (BitVec.ofNat 32 k) = (c >>> 1) ^^^ 3988292384#32) := NX.out.trans (crS_odd hb)
            clear NX hb
            go_wp2
            refine ⟨⟨q + 1, Nat.succ_le_of_lt QL.out, ?_, rfl, trivial⟩, msr QL.out⟩
            rw [EN.out, half_2, ← xor_u3, poly_u3]
        · have ql : ¬ (q : Int) < 8 := by omega
          clear qlt
          obtain ⟨n0, f0⟩ := H1.out.tb.cell k LT.out
          have fz := H1.out.tb.frozen k
          have e8 : q = 8 := by omega
          subst e8
          have S0 : Hid (Tb w.heap.size (WO.setCell ⟨w.heap.size + 1, k, none⟩ (.int .u32 (uW (crN 8 (BitVec.ofNat 32 k))))) ∧ Tx (k + 1) (w.heap.size + 1) (WO.setCell ⟨w.heap.size + 1, k, none⟩ (.int .u32 (uW (crN 8 (BitVec.ofNat 32 k))))) ∧ Below w.heap.size w (WO.setCell ⟨w.heap.size + 1, k, none⟩ (.int .u32 (uW (crN 8 (BitVec.ofNat 32 k)))))) := ⟨H0.out.other (by omega) _ _, H1.out.set LT.out, HW.out.setCell (p := ⟨w.heap.size + 1, k, none⟩) (Nat.le_succ _) _⟩
          go_wp2
          try rw [ek]
          refine ⟨?_, msr LT.out⟩
          first
            | exact ⟨k + 1, Nat.succ_le_of_lt LT.out, rfl, S0.out.2.2, S0.out.1, S0.out.2.1⟩
            | ((repeat apply Exists.intro); refine ⟨?_, rfl⟩; exact ⟨k + 1, Nat.succ_le_of_lt LT.out, rfl, S0.out.2.2, S0.out.1, S0.out.2.1⟩)
    · have kl : ¬ (k : Int) < 256 := by omega
      go_upto_region 15 with fail
      obtain ⟨cs, c1, c2, c3⟩ := H1.out
      obtain ⟨ds, d1, d2⟩ := H0.out
      go_wp2_with (first
        | (refine wpList_load_row rfl 81 _ rfl (w.heap.size + 1) rfl _ cs (0, 0) _ c1 Tryz.underlying81 rfl (by rw [c2.1]; exact u256_info) ?_)
        | (refine wpList_store_row rfl 81 _ _ rfl w.heap.size cs rfl rfl _ ds d1 (by rw [c2.1]; exact u256_info) (by rw [c2.1, d2.1]) (u256_one c2) ?_))
      exact bodyPost_ret (v := .agg cs) (results_cell_row Tryz.results32 _ _ w.heap.size _ _ (0, 0) _ (by first | rfl | simp [Act.put]) (setRow_heap _ _ _ _ _ _ d1) Tryz.underlying81 rfl (by rw [c2.1]; exact u256_info)) rfl ⟨⟨cs, rfl, c2, fun j hj => c3 j (by omega)⟩, row_bel HW.out (Nat.le_refl _) _⟩
end Go.Proofs.YtdcjngakmkgbmaaGreat
namespace Go.Proofs.YtdcjngakmkgbmaaGreat
set_option linter.unusedVariables false
open Go.RowKit
/-- The four bytes of a check sum. -/
def cr4 (c : BitVec 32) : Value := .agg #[.int .u8 (uW c % (256 : Int)), .int .u8 (uW c / (256 : Int) % (256 : Int)), .int .u8 (uW c / (65536 : Int) % (256 : Int)), .int .u8 (uW c / (16777216 : Int) % (256 : Int))]
theorem shr_8 (a : BitVec 32) : uW a / (256 : Int) = uW (a >>> 8) := by
  unfold uW
  rw [BitVec.toNat_ushiftRight, Nat.shiftRight_eq_div_pow]
  omega
theorem crB_m (c : BitVec 32) (x : Nat) (hx : x < 256) : bits .xor .u32 (uW c / (256 : Int)) (uW (taB ((c ^^^ BitVec.ofNat 32 x) &&& 255#32).toNat)) = uW (crB c (BitVec.ofNat 32 x)) := by
  rw [shr_8, xor_u3, crB_tab c (BitVec.ofNat 32 x) (by rw [BitVec.lt_def, BitVec.toNat_ofNat]; show x % 4294967296 < 256; omega)]
  unfold taB
  rw [BitVec.ofNat_toNat, BitVec.setWidth_eq]
theorem ones_u3 : uW 4294967295#32 = 4294967295 := by decide
theorem tab_lt (c : BitVec 32) (x : Nat) (hx : x < 256) : ((c ^^^ BitVec.ofNat 32 x) &&& 255#32).toNat < 256 := by
  rw [BitVec.toNat_and]
  show (c ^^^ BitVec.ofNat 32 x).toNat &&& 255 < 256
  rw [show (255 : Nat) = 2 ^ 8 - 1 by decide, Nat.and_two_pow_sub_one_eq_mod]
  omega
set_option maxRecDepth 20000 in
set_option maxHeartbeats 4000000 in
theorem sumOfX_of (x : Option Addr) (n c : Nat) (l : List Nat) (w : World) (hn : n ≤ 1099511627776) (hl : l.length = n) (hb : ∀ b ∈ l, b < 256) (hc : ∀ (k : Nat) b, l[k]? = some b → ∃ a, x = some a ∧ a.block < w.heap.size ∧ w.cell? (a.add k) = some (.int .u8 b)) :
    Calls Tryz.prog 12 #[.slice x n c] w fun e w' => e = .returned (cr4 (crcF l)) ∧ Below w.heap.size w w' := by
  have HC : Hid (∀ (k : Nat) b, l[k]? = some b → ∃ a, x = some a ∧ a.block < w.heap.size ∧ w.cell? (a.add k) = some (.int .u8 b)) := hc
  have HN : Hid (n ≤ 1099511627776) := hn
  have HL : Hid (l.length = n) := hl
  have HB : Hid (∀ b ∈ l, b < 256) := hb
  clear hc hn hl hb
  obtain ⟨AW, eW⟩ : ∃ AW, AW = w.alloc (.cells #[.int .u8 0, .int .u8 0, .int .u8 0, .int .u8 0] 60 (0, 0)) := ⟨_, rfl⟩
  have AB : Hid (Below w.heap.size w AW) := by rw [eW]; exact (Below.refl _ _).alloc (Nat.le_refl _) _
  have AX : Hid (AW.heap[w.heap.size]? = some (.cells #[.int .u8 0, .int .u8 0, .int .u8 0, .int .u8 0] 60 (0, 0))) := by rw [eW]; exact heap_alloc_last _ _
  go_enter Tryz.func12, Tryz.ntmps12
  go_upto_region 1 with fail
  rw [← eW]
  clear eW
  go_wp2_with (go_at_call 32; refine (byteChangesX_of _).mono ?_)
  first | (rintro e w1 ⟨⟨cs, he, hu, hx⟩, hb1⟩) | (rintro e w1 cs he hu hx hb1) | (rintro e w1 ⟨cs, he, hu, hx⟩ hb1)
  subst he
  have U : Hid (U256 cs) := hu
  have UX : Hid (∀ j : Nat, j < 256 → cs[j]? = some (.int .u32 (uW (taB j)))) := hx
  have B1 : Hid (Below AW.heap.size AW w1) := hb1
  clear hu hb1 hx
  have Z1 : Hid ((w1.alloc (.cells Tryz.zeroCells81 81)).heap[w1.heap.size]? = some (.cells Tryz.zeroCells81 81 (0, 0))) := heap_alloc_last _ _
  go_wp2_with (refine wpList_store_row rfl 81 _ _ rfl w1.heap.size cs rfl rfl _ _ Z1.out (by rw [U.out.1]; exact u256_info) (by rw [U.out.1]; exact u256_zero.1) (u256_one U.out) ?_)
  obtain ⟨AR, eR⟩ : ∃ AR, AR = (w1.alloc (.cells Tryz.zeroCells81 81)).setRow w1.heap.size cs := ⟨_, rfl⟩
  have T1 : Hid (∀ j : Nat, j < 256 → AR.cell? ⟨w1.heap.size, j, none⟩ = some (.int .u32 (uW (taB j)))) := fun j hj => by rw [eR, World.cell?, setRow_heap _ _ _ _ _ _ Z1.out]; exact UX.out j hj
  have AR1 : Hid (Below w.heap.size w AR) := by rw [eR]; exact (AB.out.trans ((B1.out.trans (((Below.refl _ _).alloc (Nat.le_refl _) _).mono B1.out.size)).mono AB.out.size)).trans ⟨rfl, rfl, rfl, by simp [World.setRow], fun k hk => setRow_other _ _ _ _ (by have := AB.out.size; have := B1.out.size; omega)⟩
  have AX1 : Hid (AR.heap[w.heap.size]? = some (.cells #[.int .u8 0, .int .u8 0, .int .u8 0, .int .u8 0] 60 (0, 0))) := by
    have h1 : w.heap.size < AW.heap.size := blk_in AX.out
    have h2 := B1.out.size
    rw [eR, setRow_other _ _ _ _ (by omega), Below.heap_alloc _ _ _ (by omega)]
    exact (B1.out.block _ h1).trans AX.out
  try rw [← eR]
  clear eR
  go_loopw [4, 10] (fun s i wr => ∃ k : Nat, k ≤ n ∧ s = .int .u32 (uW (crL 4294967295#32 (l.take k))) ∧ i = .int .i64 k ∧ wr = AR) (fun _ i _ => n - (intOf i).toNat)
  case atStart => exact ⟨0, Nat.zero_le _, by rw [List.take_zero]; show _ = Value.int .u32 (uW 4294967295#32); rw [ones_u3], rfl, rfl⟩
  case round =>
    obtain ⟨k, hk, rfl, rfl, hw⟩ := hrel
    rw [hw]
    clear hw wr
    by_cases hlt : k < n
    · obtain ⟨b, hbk⟩ : ∃ b, l[k]? = some b := ⟨_, List.getElem?_eq_getElem (by rw [HL.out]; exact hlt)⟩
      have hb := HB.out b (List.mem_of_getElem? hbk)
      obtain ⟨a, rfl, hab, hcell⟩ := HC.out k b hbk
      have f0 : AR.cell? (a.add k) = some (.int .u8 b) := (AR1.out.cell (by rw [add_block]; exact hab)).trans hcell
      have kl : (k : Int) < n := by omega
      have LT : Hid (k < n) := hlt
      have ek : wrap64 ((k : Int) + 1) = (k : Int) + 1 := by have := HN.out; unfold wrap64; omega
      have NX : Hid (crL 4294967295#32 (l.take (k + 1)) = crB (crL 4294967295#32 (l.take k)) (BitVec.ofNat 32 b)) := by
        show _ = _
        rw [List.take_add_one, hbk]
        exact crL_snoc _ _ _
      generalize crL 4294967295#32 (l.take k) = v at *
      have ix : bits .xor .u8 (uW v % (256 : Int)) b = uW ((v ^^^ BitVec.ofNat 32 b) &&& 255#32) := idx_u3 v b hb
      have it := tab_lt v b hb
      have MM : Hid (bits .xor .u32 (uW v / (256 : Int)) (uW (taB ((v ^^^ BitVec.ofNat 32 b) &&& 255#32).toNat)) = uW (crB v (BitVec.ofNat 32 b))) := crB_m v b hb
      obtain ⟨x0, x1⟩ := bits_u8 .xor (uW v % (256 : Int)) b
      have fm := T1.out _ it
      rw [show ((v ^^^ BitVec.ofNat 32 b) &&& 255#32).toNat = (bits .xor .u8 (uW v % (256 : Int)) b).toNat by rw [ix]; rfl] at fm MM
      have hr := uW_range v
      clear hlt hab hcell hk ix it hbk hb
      go_wp2
      try rw [ek]
      exact ⟨⟨k + 1, Nat.succ_le_of_lt LT.out, by rw [NX.out, ← MM.out], rfl, trivial⟩, msr LT.out⟩
    · have kl : ¬ (k : Int) < n := by omega
      have ekn : k = n := by omega
      subst ekn
      rw [show l.take k = l by rw [← HL.out, List.take_length]]
      have EX : Hid (bits .xor .u32 (uW (crL 4294967295#32 l)) 4294967295 = uW (crcF l)) := by show _ = _; rw [← ones_u3, xor_u3]; rfl
      clear hlt hk
      go_wp2_with (refine wpList_store_row rfl 60 _ _ rfl w.heap.size _ rfl rfl _ _ AX1.out (by kernel_rfl) rfl (by kernel_rfl) ?_)
      rw [EX.out]
      refine bodyPost_ret (v := cr4 (crcF l)) (results_cell_row Tryz.results12 _ _ w.heap.size _ _ (0, 0) _ (by first | rfl | simp [Act.put]) (setRow_heap _ _ _ _ _ _ AX1.out) Tryz.underlying60 rfl (by kernel_rfl)) rfl ⟨rfl, ?_⟩
      exact row_bel AR1.out (Nat.le_refl _) _
end Go.Proofs.YtdcjngakmkgbmaaGreat
namespace Go.Proofs.YtdcjngakmkgbmaaGreat
open Go.RowKit
/-- The check sum's four bytes. -/
def cr4N (c : BitVec 32) : List Nat := [(uW c % (256 : Int)).toNat, (uW c / (256 : Int) % (256 : Int)).toNat, (uW c / (65536 : Int) % (256 : Int)).toNat, (uW c / (16777216 : Int) % (256 : Int)).toNat]
end Go.Proofs.YtdcjngakmkgbmaaGreat
namespace Go.Proofs.YtdcjngakmkgbmaaGreat
set_option linter.unusedVariables false
open Go.RowKit
/-- Are these bytes? -/
def U8s (bs : List Value) : Prop := ∀ v ∈ bs, ∃ n, v = .int .u8 n
theorem U8s.app {a b : List Value} (h : U8s a) (k : U8s b) : U8s (a ++ b) := fun v hv => by rcases List.mem_append.1 hv with q | q; exact h v q; exact k v q
theorem U8s.str (s : ByteArray) : U8s (Lib.strCells s) := fun v hv => by
  unfold Lib.strCells at hv
  obtain ⟨b, _, rfl⟩ := List.mem_map.1 hv
  exact ⟨_, rfl⟩
/-- A writer in a block of its own, which has so many bytes. -/
def Wq (B g : Nat) (bs : List Value) (V : World) : Prop := B ≤ g ∧ U8s bs ∧ ∃ v, V.heap[g]? = some (.cells #[v] 58 (0, 0)) ∧ V.ownsRow B 5 1 v bs.length bs ∧ v.ownBlock ≠ some g
theorem u8_info : ∃ i, Tryz.prog.info? 5 = some i ∧ i.zero = some (.int .u8 0) ∧ i.size = 1 ∧ i.bytes = 1 := by
  obtain ⟨i, hi, hz⟩ := Option.map_eq_some_iff.1 (show (Tryz.prog.info? 5).map (fun i => (i.zero, i.size, i.bytes)) = some (some (.int .u8 0), 1, 1) by kernel_rfl)
  simp only [Prod.mk.injEq] at hz
  exact ⟨i, hi, hz.1, hz.2.1, hz.2.2⟩
theorem Wq.put {B g : Nat} {v v' : Value} {bs' : List Value} {V : World} (hB : B ≤ g) (hb : V.heap[g]? = some (.cells #[v] 58 (0, 0))) (hown : V.ownsRow B 5 1 v' bs'.length bs') (hu : U8s bs') : Wq B g bs' (V.setCell ⟨g, 0, none⟩ v') := by
  have hne : v'.ownBlock ≠ some g := Lib.ownBlock_ne hown hb (by decide)
  refine ⟨hB, hu, v', ?_, ?_, hne⟩
  · simp [World.setCell, Array.getElem?_modify, hb]
  · exact hown.kept (row := some g) ⟨rfl, rfl, rfl, by simp [World.setCell], fun k _ hk => Below.heap_setCell _ _ _ _ (fun e => hk (by simp [e]))⟩ (Or.inr hne)
theorem Wq.shape {B g : Nat} {bs : List Value} {V : World} (h : Wq B g bs V) : ∃ x n c, V.heap[g]? = some (.cells #[.slice x n c] 58 (0, 0)) ∧ V.ownsRow B 5 1 (.slice x n c) bs.length bs := by
  obtain ⟨_, _, v, h1, h2, _⟩ := h
  rcases h2.2 with ⟨rfl, h0⟩ | ⟨k, cap, cur, rfl, hx⟩
  · exact ⟨_, _, _, h1, h2⟩
  · exact ⟨_, _, _, h1, h2⟩
theorem Wq.below {B g : Nat} {bs : List Value} {V V' : World} (h : Wq B g bs V) (hb : Below V.heap.size V V') : Wq B g bs V' := by
  obtain ⟨hB, hu, v, h1, h2, h3⟩ := h
  exact ⟨hB, hu, v, (hb.block _ (blk_in h1)).trans h1, h2.kept (row := none) ⟨hb.os, hb.tape, hb.output, hb.size, fun k hk _ => hb.block k hk⟩ (by rcases h : v.ownBlock with _ | q <;> simp), h3⟩
theorem Wq.lt {B g : Nat} {bs : List Value} {V : World} (h : Wq B g bs V) : B ≤ g ∧ g < V.heap.size := ⟨h.1, by obtain ⟨_, _, v, h1, _⟩ := h; exact blk_in h1⟩
theorem Wq.u8 {B g : Nat} {bs : List Value} {V : World} (h : Wq B g bs V) : U8s bs := h.2.1
/-- Blocks of other types than bytes' and the writer's stay. -/
def KpT (w w' : World) : Prop := ∀ (k : Nat) cs T fr, w.heap[k]? = some (.cells cs T fr) → T ≠ 5 → T ≠ 58 → w'.heap[k]? = some (.cells cs T fr)
/-- What is below B stays, and blocks of other types do. -/
structure Bq (B : Nat) (w w' : World) : Prop where
  b : Below B w w'
  k : KpT w w'
theorem Bq.refl (B : Nat) (w : World) : Bq B w w := ⟨Below.refl _ _, fun _ _ _ _ h _ _ => h⟩
theorem Bq.trans {B : Nat} {a b c : World} (h : Bq B a b) (k : Bq B b c) : Bq B a c := ⟨h.b.trans k.b, fun n cs T fr q1 q2 q3 => k.k n cs T fr (h.k n cs T fr q1 q2 q3) q2 q3⟩
theorem Bq.up {B : Nat} {a b : World} (h : Below a.heap.size a b) (hB : B ≤ a.heap.size) : Bq B a b := ⟨h.mono hB, fun n cs T fr q1 _ _ => (h.block n (blk_in q1)).trans q1⟩
theorem Bq.grown {B : Nat} {a b c : World} {v : Value} {n : Nat} {xs : List Value} (h : Bq B a b) (ho : b.ownsRow B 5 1 v n xs) (hg : b.grownBy c v.ownBlock) (hB : B ≤ b.heap.size) : Bq B a c :=
  h.trans ⟨(Below.refl B b).grown hg hB (fun k hk => (ho.lt k hk).1), fun k cs T fr q1 q2 q3 => by
    rw [hg.block k (blk_in q1) (fun e => Lib.ownBlock_ne ho q1 q2 e.symm)]
    exact q1⟩
theorem Bq.set {B g : Nat} {a b : World} {cs : Array Value} (h : Bq B a b) (hg : b.heap[g]? = some (.cells cs 58 (0, 0))) (hB : B ≤ g) (j : Nat) (v : Value) : Bq B a (b.setCell ⟨g, j, none⟩ v) :=
  h.trans ⟨(Below.refl B b).setCell (p := ⟨g, j, none⟩) hB _, fun k cs T fr q1 q2 q3 => by
    have hne : k ≠ g := fun e => by rw [e, hg] at q1; cases q1; exact q3 rfl
    rw [Below.heap_setCell _ _ _ _ hne]
    exact q1⟩
set_option maxRecDepth 20000 in
set_option maxHeartbeats 4000000 in
theorem raw_of (B g : Nat) (bs : List Value) (b : Int) (w : World) (h : Wq B g bs w) (hl : bs.length ≤ 70368744177664) :
    Calls Tryz.prog 58 #[.pointer (some ⟨g, 0, none⟩), .int .u8 b] w fun e w' => e = .returned (.tuple #[]) ∧ Wq B g (bs ++ [.int .u8 b]) w' ∧ Bq B w w' := by
  obtain ⟨i0, hi, hz0, hz1, hz2⟩ := u8_info
  have hB := h.lt
  have hU := h.u8
  obtain ⟨x, n, c, hg, hown⟩ := h.shape
  have c0 : w.cell? ⟨g, 0, none⟩ = some (.slice x n c) := by simp [World.cell?, hg]
  have HG : Hid (w.heap[g]? = some (.cells #[.slice x n c] 58 (0, 0))) := hg
  have HO : Hid (w.ownsRow B 5 1 (.slice x n c) bs.length bs) := hown
  have NE : Hid ((Value.slice x n c).ownBlock ≠ some g) := Lib.ownBlock_ne hown hg (by decide)
  clear h hg hown
  have GA : Hid (∀ X : Obj, Below w.heap.size w (w.alloc X)) := fun X => (Below.refl _ _).alloc (Nat.le_refl _) _
  have OA : Hid (∀ X : Obj, (w.alloc X).ownsRow B 5 1 (.slice x n c) bs.length bs) := fun X => HO.out.kept (row := none) ⟨rfl, rfl, rfl, (GA.out X).size, fun k hk _ => (GA.out X).block k hk⟩ (by rcases h : (Value.slice x n c).ownBlock with _ | q <;> simp)
  go_enter Tryz.func58, Tryz.ntmps58
  go_wp2_with (at_builtin; refine wpList_append_own_at _ rfl _ _ 27 rfl B 5 i0 _ 1 1 Tryz.underlying27 hi hz0 hz1 hz2 rfl (by decide) _ bs.length bs rfl (OA.out _) ⟨w.heap.size, 0, none⟩ 1 1 [.int .u8 b] rfl rfl (cell_one_new _ _ _) (by simp [Value.oneCell']) (by unfold maxLen; omega) (by omega) (by simp; omega) ?_)
  intro v' w1 hown' hgrow hnil hat'
  have O1 : Hid (w1.ownsRow B 5 1 v' (bs ++ [Value.int .u8 b]).length (bs ++ [Value.int .u8 b])) := by show World.ownsRow _ _ _ _ _ _ _; rw [List.length_append]; exact hown'
  have hlt : g < (w.alloc (.cells #[.int .u8 b] 5)).heap.size := by simp; omega
  have G1 : Hid (w1.heap[g]? = some (.cells #[.slice x n c] 58 (0, 0))) := by
    rw [hgrow.block g hlt (fun e => NE.out e.symm), Below.heap_alloc _ _ _ hB.2]
    exact HG.out
  have B1 : Hid (Bq B w w1) := (Bq.up (GA.out _) (by omega)).grown (OA.out _) hgrow (by simp; omega)
  have d0 : w1.cell? ⟨g, 0, none⟩ = some (.slice x n c) := by simp [World.cell?, G1.out]
  have d1 : w1.frozen? ⟨g, 0, none⟩ = false := by simp [World.frozen?, G1.out]
  obtain ⟨y, k, q, rfl⟩ : ∃ y k q, v' = .slice y k q := by
    rcases hown'.2 with ⟨hv, _⟩ | ⟨_, cap, cur, hv, _⟩
    · exact ⟨_, _, _, hv⟩
    · exact ⟨_, _, _, hv⟩
  clear hown' hgrow hnil hat' hlt c0 GA OA
  go_wp2
  go_end0
  exact ⟨rfl, Wq.put hB.1 G1.out O1.out (hU.app (fun v hv => ⟨b, by simpa using hv⟩)), B1.out.set G1.out hB.1 _ _⟩
set_option maxRecDepth 20000 in
set_option maxHeartbeats 4000000 in
theorem number_of (B g : Nat) (bs : List Value) (v : Int) (w : World) (h : Wq B g bs w) (hl : bs.length ≤ 1000) :
    Calls Tryz.prog 57 #[.pointer (some ⟨g, 0, none⟩), .int .i64 v] w fun e w' => e = .returned (.tuple #[]) ∧ (∃ l : List Value, l.length = 8 ∧ Wq B g (bs ++ l) w') ∧ Bq B w w' := by
  have H : Hid (Wq B g bs w) := h
  have HL : Hid (bs.length ≤ 1000) := hl
  clear h hl
  go_enter Tryz.func57, Tryz.ntmps57
  go_upto_region 1 with fail
  go_loopw [5] (fun i wr => ∃ (k : Nat) (l : List Value), k ≤ 8 ∧ i = .int .i64 k ∧ l.length = k ∧ Wq B g (bs ++ l) wr ∧ Bq B w wr) (fun i _ => 8 - (intOf i).toNat)
  case atStart => exact ⟨0, [], Nat.zero_le _, rfl, rfl, by rw [List.append_nil]; exact H.out, Bq.refl _ _⟩
  case round =>
    obtain ⟨k, l, hk, rfl, hll, hw, hb⟩ := hrel
    have HW : Hid (Wq B g (bs ++ l) wr) := hw
    have HB : Hid (Bq B w wr) := hb
    have LL : Hid (l.length = k) := hll
    clear hw hb hll
    by_cases hlt : k < 8
    · have kl : (k : Int) < 8 := by omega
      have LT : Hid (k < 8) := hlt
      have ek : wrap64 ((k : Int) + 1) = (k : Int) + 1 := by unfold wrap64; omega
      have e8 : wrap64 (8 * (k : Int)) = 8 * (k : Int) := by unfold wrap64; omega
      have p8 : ¬ (8 * (k : Int)) < 0 := by omega
      have q8 : (0 : Int) ≤ 8 * (k : Int) := by omega
      clear hlt
      go_wp2_with (go_at_call 58; refine (raw_of B g (bs ++ l) _ _ HW.out (by rw [List.length_append, LL.out]; have := HL.out; omega)).mono ?_)
      intro e w1 he h1 hb1
      subst he
      have H1 : Hid (Wq B g _ w1) := h1
      have B1 : Hid (Bq B w w1) := HB.out.trans hb1
      clear h1 hb1
      go_wp2
      try rw [ek]
      exact ⟨⟨k + 1, l ++ [_], Nat.succ_le_of_lt LT.out, rfl, (by rw [List.length_append, LL.out]; rfl), (by first | exact H1.out | (rw [← List.append_assoc]; exact H1.out)), B1.out⟩, msr LT.out⟩
    · have kl : ¬ (k : Int) < 8 := by omega
      have ek : k = 8 := by omega
      subst ek
      clear hlt hk
      go_wp2
      go_end0
      exact ⟨rfl, ⟨l, LL.out, HW.out⟩, HB.out⟩
set_option maxRecDepth 20000 in
set_option maxHeartbeats 4000000 in
theorem text_of (B g : Nat) (bs : List Value) (s : ByteArray) (w : World) (h : Wq B g bs w) (hl : bs.length ≤ 900) (hs : s.size ≤ 100) :
    Calls Tryz.prog 25 #[.pointer (some ⟨g, 0, none⟩), .string s] w fun e w' => e = .returned (.tuple #[]) ∧ (∃ l : List Value, l.length = 8 ∧ Wq B g (bs ++ l ++ Lib.strCells s) w') ∧ Bq B w w' := by
  obtain ⟨i0, hi, hz0, hz1, hz2⟩ := u8_info
  have H : Hid (Wq B g bs w) := h
  have HB := h.lt
  have HL : Hid (bs.length ≤ 900) := hl
  have HS : Hid (s.size ≤ 100) := hs
  clear h hl hs
  go_enter Tryz.func25, Tryz.ntmps25
  go_wp2_with (go_at_call 57; refine (number_of B g bs _ _ H.out (by have := HL.out; omega)).mono ?_)
  first | (rintro e w1 ⟨he, ⟨l, hll, h1⟩, hb1⟩) | (rintro e w1 he ⟨⟨l, hll, h1⟩, hb1⟩) | (rintro e w1 he ⟨l, hll, h1⟩ hb1) | (rintro e w1 he l hll h1 hb1)
  subst he
  have LL : Hid (l.length = 8) := hll
  have B1 : Hid (Bq B w w1) := hb1
  have HB1 := h1.lt
  have HU1 := h1.u8
  obtain ⟨x, n, c, hg, hown⟩ := h1.shape
  have c0 : w1.cell? ⟨g, 0, none⟩ = some (.slice x n c) := by simp [World.cell?, hg]
  have HG : Hid (w1.heap[g]? = some (.cells #[.slice x n c] 58 (0, 0))) := hg
  have HO : Hid (w1.ownsRow B 5 1 (.slice x n c) (bs ++ l).length (bs ++ l)) := hown
  have NE : Hid ((Value.slice x n c).ownBlock ≠ some g) := Lib.ownBlock_ne hown hg (by decide)
  have SZ : Hid ((bs ++ l).length ≤ 1000) := by show _ ≤ _; rw [List.length_append, LL.out]; have := HL.out; omega
  clear h1 hg hown hb1 hll
  go_wp2_with (at_builtin; refine Lib.wpList_append_own_string _ rfl _ _ 27 9 rfl B 5 i0 Tryz.underlying27 Tryz.underlying9 hi hz0 hz1 hz2 _ _ _ rfl HO.out s rfl ?c3 ?c4 ?c5 ?_)
  case c3 => have := SZ.out; have := HS.out; unfold maxLen; omega
  case c4 => have := SZ.out; have := HS.out; omega
  case c5 => omega
  intro v' w2 hown' hgrow hnil
  have O1 : Hid (w2.ownsRow B 5 1 v' (bs ++ l ++ Lib.strCells s).length (bs ++ l ++ Lib.strCells s)) := by show World.ownsRow _ _ _ _ _ _ _; first | (rw [List.length_append, Lib.strCells_length]; exact hown') | (rw [List.length_append, List.length_append, Lib.strCells_length, List.append_assoc]; exact hown')
  have G1 : Hid (w2.heap[g]? = some (.cells #[.slice x n c] 58 (0, 0))) := by
    rw [hgrow.block g HB1.2 (fun e => NE.out e.symm)]
    exact HG.out
  have B2 : Hid (Bq B w w2) := B1.out.grown HO.out hgrow (by omega)
  have d0 : w2.cell? ⟨g, 0, none⟩ = some (.slice x n c) := by simp [World.cell?, G1.out]
  have d1 : w2.frozen? ⟨g, 0, none⟩ = false := by simp [World.frozen?, G1.out]
  obtain ⟨y, k, q, rfl⟩ : ∃ y k q, v' = .slice y k q := by
    rcases hown'.2 with ⟨hv, _⟩ | ⟨_, cap, cur, hv, _⟩
    · exact ⟨_, _, _, hv⟩
    · exact ⟨_, _, _, hv⟩
  clear hown' hgrow hnil c0
  go_wp2
  go_end0
  exact ⟨rfl, ⟨l, LL.out, Wq.put HB.1 G1.out O1.out (HU1.app (U8s.str s))⟩, B2.out.set G1.out HB.1 _ _⟩
end Go.Proofs.YtdcjngakmkgbmaaGreat
