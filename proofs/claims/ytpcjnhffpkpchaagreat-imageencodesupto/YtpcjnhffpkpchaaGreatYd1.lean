/- The document's check sum, exactly; no statement of the seat is proved here. -/
import Derived.Test.YtpcjnhffpkpchaaGreatSubG
import Derived.Test.YtpcjnhffpkpchaaGreatYb2
import Derived.Deep.DeepCutAuto
namespace Go.Proofs.YtpcjnhffpkpchaaGreat
set_option linter.unusedVariables false
open Go.RowKit
/-- One step of the check sum. -/
def crS (c : BitVec 32) : BitVec 32 := (c >>> 1) ^^^ (if c.getLsbD 0 = true then 3988292384#32 else 0#32)
def crN : Nat → BitVec 32 → BitVec 32
  | 0, c => c
  | n + 1, c => crN n (crS c)
/-- What one byte does. -/
def crB (c : BitVec 32) (x : BitVec 32) : BitVec 32 := crN 8 (c ^^^ x)
theorem crS_xor (a b : BitVec 32) : crS (a ^^^ b) = crS a ^^^ crS b := by
  unfold crS
  apply BitVec.eq_of_getLsbD_eq
  intro i hi
  simp only [BitVec.getLsbD_xor, BitVec.getLsbD_ushiftRight]
  generalize a.getLsbD 0 = p
  generalize b.getLsbD 0 = q
  cases p <;> cases q <;> simp
  all_goals
    cases a.getLsbD (1 + i) <;> cases b.getLsbD (1 + i) <;> simp
theorem crN_xor (n : Nat) (a b : BitVec 32) : crN n (a ^^^ b) = crN n a ^^^ crN n b := by
  induction n generalizing a b with
  | zero => rfl
  | succ n ih => show crN n (crS (a ^^^ b)) = _; rw [crS_xor, ih]; rfl
/-- A step of what has no lowest bits moves it down. -/
theorem crS_low {c : BitVec 32} (h : c.getLsbD 0 = false) : crS c = c >>> 1 := by
  unfold crS
  rw [h]
  simp
theorem crN_low (n : Nat) (c : BitVec 32) (h : ∀ i, i < n → c.getLsbD i = false) : crN n c = c >>> n := by
  induction n generalizing c with
  | zero => show c = _; simp
  | succ n ih =>
    show crN n (crS c) = _
    rw [crS_low (h 0 (by omega)), ih]
    · apply BitVec.eq_of_getLsbD_eq
      intro i hi
      simp only [BitVec.getLsbD_ushiftRight]
      congr 1
      omega
    · intro i hi
      rw [BitVec.getLsbD_ushiftRight]
      exact h _ (by omega)
/-- A byte, by the table of what eight steps do to a byte. -/
theorem crB_tab (c x : BitVec 32) (hx : x < 256#32) : crB c x = (c >>> 8) ^^^ crN 8 ((c ^^^ x) &&& 255#32) := by
  have e : c ^^^ x = ((c ^^^ x) &&& 255#32) ^^^ ((c >>> 8) <<< 8) := by
    apply BitVec.eq_of_getLsbD_eq
    intro i hi
    have hx8 : 8 ≤ i → x.getLsbD i = false := fun h => by
      have hlt : x.toNat < 2 ^ 8 := by simpa [BitVec.lt_def] using hx
      rw [BitVec.getLsbD]
      exact Nat.testBit_lt_two_pow (Nat.lt_of_lt_of_le hlt (Nat.pow_le_pow_right (by decide) h))
    have h255 : (255#32).getLsbD i = decide (i < 8) := by
      rw [BitVec.getLsbD]
      show (255 : Nat).testBit i = _
      rw [show (255 : Nat) = 2 ^ 8 - 1 by decide, Nat.testBit_two_pow_sub_one]
    simp only [BitVec.getLsbD_xor, BitVec.getLsbD_and, BitVec.getLsbD_shiftLeft, BitVec.getLsbD_ushiftRight, h255]
    by_cases h : i < 8
    · simp [h]
    · rw [hx8 (by omega)]
      simp [h, hi, show 8 + (i - 8) = i by omega]
  unfold crB
  rw [e, crN_xor, crN_low 8 ((c >>> 8) <<< 8)]
  · rw [← e]
    rw [BitVec.xor_comm]
    congr 1
    apply BitVec.eq_of_getLsbD_eq
    intro i hi
    simp only [BitVec.getLsbD_ushiftRight, BitVec.getLsbD_shiftLeft]
    by_cases h : 8 + i < 32
    · simp [h]
    · simp [h, BitVec.getLsbD_of_ge c (8 + i) (by omega)]
  · intro i hi
    simp [BitVec.getLsbD_shiftLeft, hi]
/-- The check sum's run over bytes. -/
def crL (c : BitVec 32) : List Nat → BitVec 32
  | [] => c
  | x :: l => crL (crB c (BitVec.ofNat 32 x)) l
def crcF (l : List Nat) : BitVec 32 := crL 4294967295#32 l ^^^ 4294967295#32
theorem crL_snoc (c : BitVec 32) (l : List Nat) (x : Nat) : crL c (l ++ [x]) = crB (crL c l) (BitVec.ofNat 32 x) := by
  induction l generalizing c with
  | nil => rfl
  | cons y l ih => exact ih _
/-- Numbers of 32 bits as the machine has them. -/
def uW (c : BitVec 32) : Int := c.toNat
theorem uW_range (c : BitVec 32) : 0 ≤ uW c ∧ uW c < 4294967296 := by
  have := c.isLt
  unfold uW
  omega
theorem xor_u3 (a b : BitVec 32) : bits .xor .u32 (uW a) (uW b) = uW (a ^^^ b) := by
  have ea : BitVec.ofInt 32 (uW a) = a := by unfold uW; rw [BitVec.ofInt_natCast]; simp
  have eb : BitVec.ofInt 32 (uW b) = b := by unfold uW; rw [BitVec.ofInt_natCast]; simp
  show IntKind.u32.wrap ((BitVec.ofInt 32 (uW a) ^^^ BitVec.ofInt 32 (uW b)).toNat : Int) = _
  rw [ea, eb]
  have := uW_range (a ^^^ b)
  show ((a ^^^ b).toNat : Int) % 4294967296 = uW _
  unfold uW at *
  omega
theorem half_u3 (a : BitVec 32) : (uW a).tdiv 2 % 4294967296 = uW (a >>> 1) := by
  have h := uW_range a
  have e : uW (a >>> 1) = uW a / 2 := by
    unfold uW
    rw [BitVec.toNat_ushiftRight, Nat.shiftRight_eq_div_pow]
    omega
  rw [e, Int.tdiv_eq_ediv_of_nonneg h.1]
  omega
theorem odd_u3 (a : BitVec 32) : (uW a % 2 = 1) ↔ a.getLsbD 0 = true := by
  unfold uW
  rw [BitVec.getLsbD, Nat.testBit_zero]
  simp
  omega
theorem shr_u3 (a : BitVec 32) : uW a / 256 = uW (a >>> 8) := by
  unfold uW
  rw [BitVec.toNat_ushiftRight, Nat.shiftRight_eq_div_pow]
  omega
/-- The index into the table. -/
theorem idx_u3 (c : BitVec 32) (x : Nat) (hx : x < 256) : bits .xor .u8 (uW c % 256) x = uW ((c ^^^ BitVec.ofNat 32 x) &&& 255#32) := by
  have e1 : BitVec.ofInt 8 (uW c % 256) = c.setWidth 8 := by
    apply BitVec.eq_of_toNat_eq
    rw [BitVec.toNat_ofInt, BitVec.toNat_setWidth]
    unfold uW
    have := c.isLt
    omega
  have e2 : BitVec.ofInt 8 (x : Int) = (BitVec.ofNat 32 x).setWidth 8 := by
    apply BitVec.eq_of_toNat_eq
    rw [BitVec.toNat_ofInt, BitVec.toNat_setWidth, BitVec.toNat_ofNat]
    omega
  show IntKind.u8.wrap ((BitVec.ofInt 8 (uW c % 256) ^^^ BitVec.ofInt 8 (x : Int)).toNat : Int) = _
  rw [e1, e2]
  have e3 : (c.setWidth 8 ^^^ (BitVec.ofNat 32 x).setWidth 8).toNat = ((c ^^^ BitVec.ofNat 32 x) &&& 255#32).toNat := by
    rw [← BitVec.setWidth_xor, BitVec.toNat_setWidth, BitVec.toNat_and]
    show _ = (c ^^^ BitVec.ofNat 32 x).toNat &&& 255
    rw [show (255 : Nat) = 2 ^ 8 - 1 by decide, Nat.and_two_pow_sub_one_eq_mod]
  rw [e3]
  have h : ((c ^^^ BitVec.ofNat 32 x) &&& 255#32).toNat < 256 := by rw [← e3]; exact BitVec.isLt _
  show (((c ^^^ BitVec.ofNat 32 x) &&& 255#32).toNat : Int) % 256 = _
  unfold uW
  omega
end Go.Proofs.YtpcjnhffpkpchaaGreat
namespace Go.Proofs.YtpcjnhffpkpchaaGreat
set_option linter.unusedVariables false
open Go.RowKit
/-- What eight steps do to a byte. -/
def taB (j : Nat) : BitVec 32 := crN 8 (BitVec.ofNat 32 j)
theorem crN_snoc (n : Nat) (c : BitVec 32) : crN (n + 1) c = crS (crN n c) := by
  induction n generalizing c with
  | zero => rfl
  | succ n ih => exact ih (crS c)
theorem u3_nat (k : Nat) (h : k < 256) : uW (BitVec.ofNat 32 k) = k := by
  unfold uW
  rw [BitVec.toNat_ofNat]
  omega
theorem half_2 (a : BitVec 32) : uW a / (2 : Int) = uW (a >>> 1) := by
  unfold uW
  rw [BitVec.toNat_ushiftRight, Nat.shiftRight_eq_div_pow]
  omega
theorem crS_odd {c : BitVec 32} (h : c.getLsbD 0 = true) : crS c = (c >>> 1) ^^^ 3988292384#32 := by unfold crS; rw [if_pos h]
theorem poly_u3 : uW 3988292384#32 = 3988292384 := by decide
/-- A block whose first k numbers are the table's. -/
def Tx (k g : Nat) (V : World) : Prop := ∃ cs, V.heap[g]? = some (.cells cs 78 (0, 0)) ∧ U256 cs ∧ ∀ j : Nat, j < k → cs[j]? = some (.int .u32 (uW (taB j)))
theorem Tx.tb {k g : Nat} {V : World} (h : Tx k g V) : Tb g V := by obtain ⟨cs, h1, h2, _⟩ := h; exact ⟨cs, h1, h2⟩
theorem Tx.set {k g : Nat} {V : World} (h : Tx k g V) (hk : k < 256) : Tx (k + 1) g (V.setCell ⟨g, k, none⟩ (.int .u32 (uW (taB k)))) := by
  obtain ⟨cs, h1, h2, h3⟩ := h
  refine ⟨cs.setIfInBounds k (.int .u32 (uW (taB k))), by simp [World.setCell, Array.getElem?_modify, h1], u256_set h2 k _, fun j hj => ?_⟩
  by_cases e : k = j
  · subst e
    simp [h2.1, hk]
  · simp [e, h3 j (by omega)]
set_option maxRecDepth 20000 in
set_option maxHeartbeats 4000000 in
theorem byteChangesX_of (w : World) : Calls Tryz.prog 34 #[] w fun e w' => (∃ cs : Array Value, e = .returned (.agg cs) ∧ U256 cs ∧ ∀ j : Nat, j < 256 → cs[j]? = some (.int .u32 (uW (taB j)))) ∧ Below w.heap.size w w' := by
  obtain ⟨AW, eW⟩ : ∃ AW, AW = (w.alloc (.cells Tryz.zeroCells78 78)).alloc (.cells Tryz.zeroCells78 78) := ⟨_, rfl⟩
  have T0 : Hid (Tb w.heap.size AW) := by rw [eW]; exact ⟨_, (tv_at w _ _).1, u256_zero⟩
  have T1 : Hid (Tx 0 (w.heap.size + 1) AW) := by rw [eW]; exact ⟨_, (tv_at w _ _).2, u256_zero, fun j hj => absurd hj (Nat.not_lt_zero _)⟩
  have AB : Hid (Below w.heap.size w AW) := by rw [eW]; exact ((Below.refl _ _).alloc (Nat.le_refl _) _).alloc (by simp) _
  go_enter Tryz.func34, Tryz.ntmps34
  go_upto_region 2 with fail
  rw [← eW]
  clear eW
  go_upto_region 3 with fail
  go_loopw [5] (fun i wr => ∃ k : Nat, k ≤ 256 ∧ i = .int .i64 k ∧ Below w.heap.size w wr ∧ Tb w.heap.size wr ∧ Tx k (w.heap.size + 1) wr) (fun i _ => 256 - (intOf i).toNat)
  case atStart => exact ⟨0, Nat.zero_le _, rfl, AB.out, T0.out, T1.out⟩
  case round =>
    obtain ⟨k, hk, rfl, hbw, h0, h1⟩ := hrel
    have HW : Hid (Below w.heap.size w wr) := hbw
    have H0 : Hid (Tb w.heap.size wr) := h0
    have H1 : Hid (Tx k (w.heap.size + 1) wr) := h1
    clear hbw h0 h1 T0 T1 AB
    by_cases hlt : k < 256
    · have kl : (k : Int) < 256 := by omega
      have LT : Hid (k < 256) := hlt
      have ek : wrap64 ((k : Int) + 1) = (k : Int) + 1 := by unfold wrap64; omega
      clear hlt
      go_upto_region 6 with fail
      go_upto_region 7 with fail
      obtain ⟨WO, eO⟩ : ∃ W, W = wr := ⟨_, rfl⟩
      subst eO
      go_loopw [3, 10] (fun c j wr => ∃ q : Nat, q ≤ 8 ∧ c = .int .u32 (uW (crN q (BitVec.ofNat 32 k))) ∧ j = .int .i64 q ∧ wr = WO) (fun _ j _ => 8 - (intOf j).toNat)
      case atStart => exact ⟨0, Nat.zero_le _, by rw [show crN 0 (BitVec.ofNat 32 k) = BitVec.ofNat 32 k from rfl, u3_nat k LT.out]; first | done | rfl | (congr 1; have := LT.out; omega), rfl, rfl⟩
      case round =>
        obtain ⟨q, hq, rfl, rfl, hw⟩ := hrel
        rw [hw]
        clear hw wr
        by_cases qlt : q < 8
        · have ql : (q : Int) < 8 := by omega
          have QL : Hid (q < 8) := qlt
          have eq1 : wrap64 ((q : Int) + 1) = (q : Int) + 1 := by unfold wrap64; omega
          clear qlt hq
          go_upto_region 8 with fail
          have NX : Hid (crN (q + 1) (BitVec.ofNat 32 k) = crS (crN q (BitVec.ofNat 32 k))) := crN_snoc _ _
          generalize crN q (BitVec.ofNat 32 k) = c at *
          have hr := uW_range c
          have hm : (uW c).tmod 2 = uW c % 2 := Int.tmod_eq_emod_of_nonneg hr.1
          cases hb : c.getLsbD 0
          · have m0 : uW c % 2 = 0 := by
              have := mt (odd_u3 c).1 (by rw [hb]; simp)
              omega
            have EN : Hid (crN (q + 1) (BitVec.ofNat 32 k) = c >>> 1) := NX.out.trans (crS_low hb)
            clear NX hb
            go_wp2
            refine ⟨⟨q + 1, Nat.succ_le_of_lt QL.out, ?_, rfl, trivial⟩, msr QL.out⟩
            rw [EN.out, half_2]
          · have m1 : uW c % 2 = 1 := (odd_u3 c).2 hb
            have EN : Hid (crN (q + 1) (BitVec.ofNat 32 k) = (c >>> 1) ^^^ 3988292384#32) := NX.out.trans (crS_odd hb)
            clear NX hb
            go_wp2
            refine ⟨⟨q + 1, Nat.succ_le_of_lt QL.out, ?_, rfl, trivial⟩, msr QL.out⟩
            rw [EN.out, half_2, ← xor_u3, poly_u3]
        · have ql : ¬ (q : Int) < 8 := by omega
          clear qlt
          obtain ⟨n0, f0⟩ := H1.out.tb.cell k LT.out
          have fz := H1.out.tb.frozen k
          have e8 : q = 8 := by omega
          subst e8
          have S0 : Hid (Tb w.heap.size (WO.setCell ⟨w.heap.size + 1, k, none⟩ (.int .u32 (uW (crN 8 (BitVec.ofNat 32 k))))) ∧ Tx (k + 1) (w.heap.size + 1) (WO.setCell ⟨w.heap.size + 1, k, none⟩ (.int .u32 (uW (crN 8 (BitVec.ofNat 32 k))))) ∧ Below w.heap.size w (WO.setCell ⟨w.heap.size + 1, k, none⟩ (.int .u32 (uW (crN 8 (BitVec.ofNat 32 k)))))) := ⟨H0.out.other (by omega) _ _, H1.out.set LT.out, HW.out.setCell (p := ⟨w.heap.size + 1, k, none⟩) (Nat.le_succ _) _⟩
          go_wp2
          try rw [ek]
          refine ⟨?_, msr LT.out⟩
          first
            | exact ⟨k + 1, Nat.succ_le_of_lt LT.out, rfl, S0.out.2.2, S0.out.1, S0.out.2.1⟩
            | ((repeat apply Exists.intro); refine ⟨?_, rfl⟩; exact ⟨k + 1, Nat.succ_le_of_lt LT.out, rfl, S0.out.2.2, S0.out.1, S0.out.2.1⟩)
    · have kl : ¬ (k : Int) < 256 := by omega
      go_upto_region 15 with fail
      obtain ⟨cs, c1, c2, c3⟩ := H1.out
      obtain ⟨ds, d1, d2⟩ := H0.out
      go_wp2_with (first
        | (refine wpList_load_row rfl 78 _ rfl (w.heap.size + 1) rfl _ cs (0, 0) _ c1 Tryz.underlying78 rfl (by rw [c2.1]; exact u256_info) ?_)
        | (refine wpList_store_row rfl 78 _ _ rfl w.heap.size cs rfl rfl _ ds d1 (by rw [c2.1]; exact u256_info) (by rw [c2.1, d2.1]) (u256_one c2) ?_))
      exact bodyPost_ret (v := .agg cs) (results_cell_row Tryz.results34 _ _ w.heap.size _ _ (0, 0) _ (by first | rfl | simp [Act.put]) (setRow_heap _ _ _ _ _ _ d1) Tryz.underlying78 rfl (by rw [c2.1]; exact u256_info)) rfl ⟨⟨cs, rfl, c2, fun j hj => c3 j (by omega)⟩, row_bel HW.out (Nat.le_refl _) _⟩
end Go.Proofs.YtpcjnhffpkpchaaGreat
namespace Go.Proofs.YtpcjnhffpkpchaaGreat
set_option linter.unusedVariables false
open Go.RowKit
/-- The four bytes of a check sum. -/
def cr4 (c : BitVec 32) : Value := .agg #[.int .u8 (uW c % (256 : Int)), .int .u8 (uW c / (256 : Int) % (256 : Int)), .int .u8 (uW c / (65536 : Int) % (256 : Int)), .int .u8 (uW c / (16777216 : Int) % (256 : Int))]
theorem shr_8 (a : BitVec 32) : uW a / (256 : Int) = uW (a >>> 8) := by
  unfold uW
  rw [BitVec.toNat_ushiftRight, Nat.shiftRight_eq_div_pow]
  omega
theorem crB_m (c : BitVec 32) (x : Nat) (hx : x < 256) : bits .xor .u32 (uW c / (256 : Int)) (uW (taB ((c ^^^ BitVec.ofNat 32 x) &&& 255#32).toNat)) = uW (crB c (BitVec.ofNat 32 x)) := by
  rw [shr_8, xor_u3, crB_tab c (BitVec.ofNat 32 x) (by rw [BitVec.lt_def, BitVec.toNat_ofNat]; show x % 4294967296 < 256; omega)]
  unfold taB
  rw [BitVec.ofNat_toNat, BitVec.setWidth_eq]
theorem ones_u3 : uW 4294967295#32 = 4294967295 := by decide
theorem tab_lt (c : BitVec 32) (x : Nat) (hx : x < 256) : ((c ^^^ BitVec.ofNat 32 x) &&& 255#32).toNat < 256 := by
  rw [BitVec.toNat_and]
  show (c ^^^ BitVec.ofNat 32 x).toNat &&& 255 < 256
  rw [show (255 : Nat) = 2 ^ 8 - 1 by decide, Nat.and_two_pow_sub_one_eq_mod]
  omega
set_option maxRecDepth 20000 in
set_option maxHeartbeats 4000000 in
theorem sumOfX_of (x : Option Addr) (n c : Nat) (l : List Nat) (w : World) (hn : n ≤ 1099511627776) (hl : l.length = n) (hb : ∀ b ∈ l, b < 256) (hc : ∀ (k : Nat) b, l[k]? = some b → ∃ a, x = some a ∧ a.block < w.heap.size ∧ w.cell? (a.add k) = some (.int .u8 b)) :
    Calls Tryz.prog 15 #[.slice x n c] w fun e w' => e = .returned (cr4 (crcF l)) ∧ Below w.heap.size w w' := by
  have HC : Hid (∀ (k : Nat) b, l[k]? = some b → ∃ a, x = some a ∧ a.block < w.heap.size ∧ w.cell? (a.add k) = some (.int .u8 b)) := hc
  have HN : Hid (n ≤ 1099511627776) := hn
  have HL : Hid (l.length = n) := hl
  have HB : Hid (∀ b ∈ l, b < 256) := hb
  clear hc hn hl hb
  obtain ⟨AW, eW⟩ : ∃ AW, AW = w.alloc (.cells #[.int .u8 0, .int .u8 0, .int .u8 0, .int .u8 0] 54 (0, 0)) := ⟨_, rfl⟩
  have AB : Hid (Below w.heap.size w AW) := by rw [eW]; exact (Below.refl _ _).alloc (Nat.le_refl _) _
  have AX : Hid (AW.heap[w.heap.size]? = some (.cells #[.int .u8 0, .int .u8 0, .int .u8 0, .int .u8 0] 54 (0, 0))) := by rw [eW]; exact heap_alloc_last _ _
  go_enter Tryz.func15, Tryz.ntmps15
  go_upto_region 1 with fail
  rw [← eW]
  clear eW
  go_wp2_with (go_at_call 34; refine (byteChangesX_of _).mono ?_)
  first | (rintro e w1 ⟨⟨cs, he, hu, hx⟩, hb1⟩) | (rintro e w1 cs he hu hx hb1) | (rintro e w1 ⟨cs, he, hu, hx⟩ hb1)
  subst he
  have U : Hid (U256 cs) := hu
  have UX : Hid (∀ j : Nat, j < 256 → cs[j]? = some (.int .u32 (uW (taB j)))) := hx
  have B1 : Hid (Below AW.heap.size AW w1) := hb1
  clear hu hb1 hx
  have Z1 : Hid ((w1.alloc (.cells Tryz.zeroCells78 78)).heap[w1.heap.size]? = some (.cells Tryz.zeroCells78 78 (0, 0))) := heap_alloc_last _ _
  go_wp2_with (refine wpList_store_row rfl 78 _ _ rfl w1.heap.size cs rfl rfl _ _ Z1.out (by rw [U.out.1]; exact u256_info) (by rw [U.out.1]; exact u256_zero.1) (u256_one U.out) ?_)
  obtain ⟨AR, eR⟩ : ∃ AR, AR = (w1.alloc (.cells Tryz.zeroCells78 78)).setRow w1.heap.size cs := ⟨_, rfl⟩
  have T1 : Hid (∀ j : Nat, j < 256 → AR.cell? ⟨w1.heap.size, j, none⟩ = some (.int .u32 (uW (taB j)))) := fun j hj => by rw [eR, World.cell?, setRow_heap _ _ _ _ _ _ Z1.out]; exact UX.out j hj
  have AR1 : Hid (Below w.heap.size w AR) := by rw [eR]; exact (AB.out.trans ((B1.out.trans (((Below.refl _ _).alloc (Nat.le_refl _) _).mono B1.out.size)).mono AB.out.size)).trans ⟨rfl, rfl, rfl, by simp [World.setRow], fun k hk => setRow_other _ _ _ _ (by have := AB.out.size; have := B1.out.size; omega)⟩
  have AX1 : Hid (AR.heap[w.heap.size]? = some (.cells #[.int .u8 0, .int .u8 0, .int .u8 0, .int .u8 0] 54 (0, 0))) := by
    have h1 : w.heap.size < AW.heap.size := blk_in AX.out
    have h2 := B1.out.size
    rw [eR, setRow_other _ _ _ _ (by omega), Below.heap_alloc _ _ _ (by omega)]
    exact (B1.out.block _ h1).trans AX.out
  try rw [← eR]
  clear eR
  go_loopw [4, 10] (fun s i wr => ∃ k : Nat, k ≤ n ∧ s = .int .u32 (uW (crL 4294967295#32 (l.take k))) ∧ i = .int .i64 k ∧ wr = AR) (fun _ i _ => n - (intOf i).toNat)
  case atStart => exact ⟨0, Nat.zero_le _, by rw [List.take_zero]; show _ = Value.int .u32 (uW 4294967295#32); rw [ones_u3], rfl, rfl⟩
  case round =>
    obtain ⟨k, hk, rfl, rfl, hw⟩ := hrel
    rw [hw]
    clear hw wr
    by_cases hlt : k < n
    · obtain ⟨b, hbk⟩ : ∃ b, l[k]? = some b := ⟨_, List.getElem?_eq_getElem (by rw [HL.out]; exact hlt)⟩
      have hb := HB.out b (List.mem_of_getElem? hbk)
      obtain ⟨a, rfl, hab, hcell⟩ := HC.out k b hbk
      have f0 : AR.cell? (a.add k) = some (.int .u8 b) := (AR1.out.cell (by rw [add_block]; exact hab)).trans hcell
      have kl : (k : Int) < n := by omega
      have LT : Hid (k < n) := hlt
      have ek : wrap64 ((k : Int) + 1) = (k : Int) + 1 := by have := HN.out; unfold wrap64; omega
      have NX : Hid (crL 4294967295#32 (l.take (k + 1)) = crB (crL 4294967295#32 (l.take k)) (BitVec.ofNat 32 b)) := by
        show _ = _
        rw [List.take_add_one, hbk]
        exact crL_snoc _ _ _
      generalize crL 4294967295#32 (l.take k) = v at *
      have ix : bits .xor .u8 (uW v % (256 : Int)) b = uW ((v ^^^ BitVec.ofNat 32 b) &&& 255#32) := idx_u3 v b hb
      have it := tab_lt v b hb
      have MM : Hid (bits .xor .u32 (uW v / (256 : Int)) (uW (taB ((v ^^^ BitVec.ofNat 32 b) &&& 255#32).toNat)) = uW (crB v (BitVec.ofNat 32 b))) := crB_m v b hb
      obtain ⟨x0, x1⟩ := bits_u8 .xor (uW v % (256 : Int)) b
      have fm := T1.out _ it
      rw [show ((v ^^^ BitVec.ofNat 32 b) &&& 255#32).toNat = (bits .xor .u8 (uW v % (256 : Int)) b).toNat by rw [ix]; rfl] at fm MM
      have hr := uW_range v
      clear hlt hab hcell hk ix it hbk hb
      go_wp2
      try rw [ek]
      exact ⟨⟨k + 1, Nat.succ_le_of_lt LT.out, by rw [NX.out, ← MM.out], rfl, trivial⟩, msr LT.out⟩
    · have kl : ¬ (k : Int) < n := by omega
      have ekn : k = n := by omega
      subst ekn
      rw [show l.take k = l by rw [← HL.out, List.take_length]]
      have EX : Hid (bits .xor .u32 (uW (crL 4294967295#32 l)) 4294967295 = uW (crcF l)) := by show _ = _; rw [← ones_u3, xor_u3]; rfl
      clear hlt hk
      go_wp2_with (refine wpList_store_row rfl 54 _ _ rfl w.heap.size _ rfl rfl _ _ AX1.out (by kernel_rfl) rfl (by kernel_rfl) ?_)
      rw [EX.out]
      refine bodyPost_ret (v := cr4 (crcF l)) (results_cell_row Tryz.results15 _ _ w.heap.size _ _ (0, 0) _ (by first | rfl | simp [Act.put]) (setRow_heap _ _ _ _ _ _ AX1.out) Tryz.underlying54 rfl (by kernel_rfl)) rfl ⟨rfl, ?_⟩
      exact row_bel AR1.out (Nat.le_refl _) _
end Go.Proofs.YtpcjnhffpkpchaaGreat
namespace Go.Proofs.YtpcjnhffpkpchaaGreat
set_option linter.unusedVariables false
open Go.RowKit
set_option maxRecDepth 20000 in
set_option maxHeartbeats 4000000 in
theorem SumR_of (x : Option Addr) (n c : Nat) (l : List Nat) (w : World) (hn : n ≤ 17592186044416) (hl : l.length = n) (hb : ∀ b ∈ l, b < 256) (hc : ∀ (k : Nat) b, l[k]? = some b → ∃ a, x = some a ∧ w.cell? (a.add k) = some (.int .u8 b)) :
    Calls Tryz.prog 40 #[.slice x n c] w fun e w' => e = .returned (.int .u32 (uW (crcF l))) ∧ w' = w := by
  have HC : Hid (∀ (k : Nat) b, l[k]? = some b → ∃ a, x = some a ∧ w.cell? (a.add k) = some (.int .u8 b)) := hc
  have HN : Hid (n ≤ 17592186044416) := hn
  have HL : Hid (l.length = n) := hl
  have HB : Hid (∀ b ∈ l, b < 256) := hb
  clear hc hn hl hb
  go_enter Tryz.func40, Tryz.ntmps40
  go_upto_region 2 with fail
  go_upto_region 3 with fail
  go_loopw [3, 4] (fun s i wr => ∃ k : Nat, k ≤ n ∧ s = .int .u32 (uW (crL 4294967295#32 (l.take k))) ∧ i = .int .i64 k ∧ wr = w) (fun _ i _ => n - (intOf i).toNat)
  case atStart => exact ⟨0, Nat.zero_le _, by rw [List.take_zero]; show _ = Value.int .u32 (uW 4294967295#32); rw [ones_u3], rfl, rfl⟩
  case round =>
    obtain ⟨k, hk, rfl, rfl, hw⟩ := hrel
    rw [hw]
    clear hw wr
    by_cases hlt : k < n
    · obtain ⟨b, hbk⟩ : ∃ b, l[k]? = some b := ⟨_, List.getElem?_eq_getElem (by rw [HL.out]; exact hlt)⟩
      have hb := HB.out b (List.mem_of_getElem? hbk)
      obtain ⟨a, rfl, f0⟩ := HC.out k b hbk
      have kl : (k : Int) < n := by omega
      have LT : Hid (k < n) := hlt
      have ek : wrap64 ((k : Int) + 1) = (k : Int) + 1 := by have := HN.out; unfold wrap64; omega
      have NX : Hid (crL 4294967295#32 (l.take (k + 1)) = crN 8 (crL 4294967295#32 (l.take k) ^^^ BitVec.ofNat 32 b)) := by
        show _ = _
        rw [List.take_add_one, hbk]
        exact crL_snoc _ _ _
      generalize crL 4294967295#32 (l.take k) = v at *
      have XV : Hid (bits .xor .u32 (uW v) (b : Int) = uW (v ^^^ BitVec.ofNat 32 b)) := by show _ = _; rw [← u3_nat b hb, xor_u3]
      have b0 : (b : Int) < 4294967296 := by omega
      clear hlt hk hbk hb
      go_upto_region 6 with fail
      go_upto_region 7 with fail
      clear f0
      go_loopw [3, 5] (fun s j wr => ∃ q : Nat, q ≤ 8 ∧ s = .int .u32 (uW (crN q (v ^^^ BitVec.ofNat 32 b))) ∧ j = .int .i64 q ∧ wr = w) (fun _ j _ => 8 - (intOf j).toNat)
      case atStart => exact ⟨0, Nat.zero_le _, by rw [show crN 0 (v ^^^ BitVec.ofNat 32 b) = v ^^^ BitVec.ofNat 32 b from rfl, ← XV.out]; first | done | rfl, rfl, rfl⟩
      case round =>
        obtain ⟨q, hq, rfl, rfl, hw⟩ := hrel
        rw [hw]
        clear hw wr
        by_cases qlt : q < 8
        · have ql : (q : Int) < 8 := by omega
          have QL : Hid (q < 8) := qlt
          have eq1 : wrap64 ((q : Int) + 1) = (q : Int) + 1 := by unfold wrap64; omega
          clear qlt hq
          have NY : Hid (crN (q + 1) (v ^^^ BitVec.ofNat 32 b) = crS (crN q (v ^^^ BitVec.ofNat 32 b))) := crN_snoc _ _
          generalize crN q (v ^^^ BitVec.ofNat 32 b) = z at *
          have hr := uW_range z
          cases hb : z.getLsbD 0
          · have m0 : uW z % 2 = 0 := by
              have := mt (odd_u3 z).1 (by rw [hb]; simp)
              omega
            have EN : Hid (crN (q + 1) (v ^^^ BitVec.ofNat 32 b) = z >>> 1) := NY.out.trans (crS_low hb)
            clear NY hb
            go_wp2
            refine ⟨⟨q + 1, Nat.succ_le_of_lt QL.out, ?_, rfl, trivial⟩, msr QL.out⟩
            rw [EN.out, half_2]
          · have m1 : uW z % 2 = 1 := (odd_u3 z).2 hb
            have EN : Hid (crN (q + 1) (v ^^^ BitVec.ofNat 32 b) = (z >>> 1) ^^^ 3988292384#32) := NY.out.trans (crS_odd hb)
            clear NY hb
            go_wp2
            refine ⟨⟨q + 1, Nat.succ_le_of_lt QL.out, ?_, rfl, trivial⟩, msr QL.out⟩
            rw [EN.out, half_2, ← xor_u3, poly_u3]
        · have ql : ¬ (q : Int) < 8 := by omega
          have e8 : q = 8 := by omega
          subst e8
          clear qlt hq
          go_wp2
          try rw [ek]
          exact ⟨⟨k + 1, Nat.succ_le_of_lt LT.out, by rw [NX.out], rfl, trivial⟩, msr LT.out⟩
    · have kl : ¬ (k : Int) < n := by omega
      have ekn : k = n := by omega
      subst ekn
      rw [show l.take k = l by rw [← HL.out, List.take_length]]
      have EX : Hid (bits .xor .u32 (uW (crL 4294967295#32 l)) 4294967295 = uW (crcF l)) := by show _ = _; rw [← ones_u3, xor_u3]; rfl
      clear hlt hk
      go_wp2
      go_ret
      exact ⟨by rw [EX.out]; rfl, rfl⟩
end Go.Proofs.YtpcjnhffpkpchaaGreat
