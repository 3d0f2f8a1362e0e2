/- Rows of bytes compared; bytes with their sum, whatever they lie in; no statement of the seat is proved here. -/
import Derived.Test.YtahgnmbkobiclaaGreatJnB2
import Derived.Test.YtahgnmbkobiclaaGreatEnBJ
import Derived.Test.YtahgnmbkobiclaaGreatJnA1
import Derived.Test.YtahgnmbkobiclaaGreatJnA2
import Derived.Test.YtahgnmbkobiclaaGreatCuKJ
import Derived.Test.YtahgnmbkobiclaaGreatCrCJ
import Derived.Test.YtahgnmbkobiclaaGreatCrDJ
import Derived.Test.YtahgnmbkobiclaaGreatCrEJ
import Derived.Test.YtahgnmbkobiclaaGreatJnA9
import Derived.Test.YtahgnmbkobiclaaGreatCrHbJ
import Derived.Test.YtahgnmbkobiclaaGreatCrHcJ
namespace Go.Proofs.YtahgnmbkobiclaaGreat
set_option linter.unusedVariables false
open Go.RowKit
/-- The four bytes of a check sum. -/
def cr4 (c : BitVec 32) : Value := .agg #[.int .u8 (uW c % (256 : Int)), .int .u8 (uW c / (256 : Int) % (256 : Int)), .int .u8 (uW c / (65536 : Int) % (256 : Int)), .int .u8 (uW c / (16777216 : Int) % (256 : Int))]
theorem shr_8 (a : BitVec 32) : uW a / (256 : Int) = uW (a >>> 8) := by
  unfold uW
  rw [BitVec.toNat_ushiftRight, Nat.shiftRight_eq_div_pow]
  omega
theorem crB_m (c : BitVec 32) (x : Nat) (hx : x < 256) : bits .xor .u32 (uW c / (256 : Int)) (uW (taB ((c ^^^ BitVec.ofNat 32 x) &&& 255#32).toNat)) = uW (crB c (BitVec.ofNat 32 x)) := by
  rw [shr_8, xor_u3, crB_tab c (BitVec.ofNat 32 x) (by rw [BitVec.lt_def, BitVec.toNat_ofNat]; show x % 4294967296 < 256; omega)]
  unfold taB
  rw [BitVec.ofNat_toNat, BitVec.setWidth_eq]
theorem ones_u3 : uW 4294967295#32 = 4294967295 := by decide
theorem tab_lt (c : BitVec 32) (x : Nat) (hx : x < 256) : ((c ^^^ BitVec.ofNat 32 x) &&& 255#32).toNat < 256 := by
  rw [BitVec.toNat_and]
  show (c ^^^ BitVec.ofNat 32 x).toNat &&& 255 < 256
  rw [show (255 : Nat) = 2 ^ 8 - 1 by decide, Nat.and_two_pow_sub_one_eq_mod]
  omega
set_option maxRecDepth 20000 in
set_option maxHeartbeats 4000000 in
theorem sumOfX_of (x : Option Addr) (n c : Nat) (l : List Nat) (w : World) (hn : n ≤ 1099511627776) (hl : l.length = n) (hb : ∀ b ∈ l, b < 256) (hc : ∀ (k : Nat) b, l[k]? = some b → ∃ a, x = some a ∧ a.block < w.heap.size ∧ w.cell? (a.add k) = some (.int .u8 b)) :
    Calls Tryz.prog 20 #[.slice x n c] w fun e w' => e = .returned (cr4 (crcF l)) ∧ Below w.heap.size w w' := by
  have HC : Hid (∀ (k : Nat) b, l[k]? = some b → ∃ a, x = some a ∧ a.block < w.heap.size ∧ w.cell? (a.add k) = some (.int .u8 b)) := hc
  have HN : Hid (n ≤ 1099511627776) := hn
  have HL : Hid (l.length = n) := hl
  have HB : Hid (∀ b ∈ l, b < 256) := hb
  clear hc hn hl hb
  obtain ⟨AW, eW⟩ : ∃ AW, AW = w.alloc (.cells #[.int .u8 0, .int .u8 0, .int .u8 0, .int .u8 0] 58 (0, 0)) := ⟨_, rfl⟩
  have AB : Hid (Below w.heap.size w AW) := by rw [eW]; exact (Below.refl _ _).alloc (Nat.le_refl _) _
  have AX : Hid (AW.heap[w.heap.size]? = some (.cells #[.int .u8 0, .int .u8 0, .int .u8 0, .int .u8 0] 58 (0, 0))) := by rw [eW]; exact heap_alloc_last _ _
  go_enter Tryz.func20, Tryz.ntmps20
  go_upto_region 1 with fail
  rw [← eW]
  clear eW
  go_wp2_with (go_at_call 42; refine (byteChangesX_of _).mono ?_)
  first | (rintro e w1 ⟨⟨cs, he, hu, hx⟩, hb1⟩) | (rintro e w1 cs he hu hx hb1) | (rintro e w1 ⟨cs, he, hu, hx⟩ hb1)
  subst he
  have U : Hid (U256 cs) := hu
  have UX : Hid (∀ j : Nat, j < 256 → cs[j]? = some (.int .u32 (uW (taB j)))) := hx
  have B1 : Hid (Below AW.heap.size AW w1) := hb1
  clear hu hb1 hx
  have Z1 : Hid ((w1.alloc (.cells Tryz.zeroCells93 93)).heap[w1.heap.size]? = some (.cells Tryz.zeroCells93 93 (0, 0))) := heap_alloc_last _ _
  go_wp2_with (refine wpList_store_row rfl 93 _ _ rfl w1.heap.size cs rfl rfl _ _ Z1.out (by rw [U.out.1]; exact u256_info) (by rw [U.out.1]; exact u256_zero.1) (u256_one U.out) ?_)
  obtain ⟨AR, eR⟩ : ∃ AR, AR = (w1.alloc (.cells Tryz.zeroCells93 93)).setRow w1.heap.size cs := ⟨_, rfl⟩
  have T1 : Hid (∀ j : Nat, j < 256 → AR.cell? ⟨w1.heap.size, j, none⟩ = some (.int .u32 (uW (taB j)))) := fun j hj => by rw [eR, World.cell?, setRow_heap _ _ _ _ _ _ Z1.out]; exact UX.out j hj
  have AR1 : Hid (Below w.heap.size w AR) := by rw [eR]; exact (AB.out.trans ((B1.out.trans (((Below.refl _ _).alloc (Nat.le_refl _) _).mono B1.out.size)).mono AB.out.size)).trans ⟨rfl, rfl, rfl, by simp [World.setRow], fun k hk => setRow_other _ _ _ _ (by have := AB.out.size; have := B1.out.size; omega)⟩
  have AX1 : Hid (AR.heap[w.heap.size]? = some (.cells #[.int .u8 0, .int .u8 0, .int .u8 0, .int .u8 0] 58 (0, 0))) := by
    have h1 : w.heap.size < AW.heap.size := blk_in AX.out
    have h2 := B1.out.size
    rw [eR, setRow_other _ _ _ _ (by omega), Below.heap_alloc _ _ _ (by omega)]
    exact (B1.out.block _ h1).trans AX.out
  try rw [← eR]
  clear eR
  go_loopw [4, 10] (fun s i wr => ∃ k : Nat, k ≤ n ∧ s = .int .u32 (uW (crL 4294967295#32 (l.take k))) ∧ i = .int .i64 k ∧ wr = AR) (fun _ i _ => n - (intOf i).toNat)
  case atStart => exact ⟨0, Nat.zero_le _, by rw [List.take_zero]; show _ = Value.int .u32 (uW 4294967295#32); rw [ones_u3], rfl, rfl⟩
  case round =>
    obtain ⟨k, hk, rfl, rfl, hw⟩ := hrel
    rw [hw]
    clear hw wr
    by_cases hlt : k < n
    · obtain ⟨b, hbk⟩ : ∃ b, l[k]? = some b := ⟨_, List.getElem?_eq_getElem (by rw [HL.out]; exact hlt)⟩
      have hb := HB.out b (List.mem_of_getElem? hbk)
      obtain ⟨a, rfl, hab, hcell⟩ := HC.out k b hbk
      have f0 : AR.cell? (a.add k) = some (.int .u8 b) := (AR1.out.cell (by rw [add_block]; exact hab)).trans hcell
      have kl : (k : Int) < n := by omega
      have LT : Hid (k < n) := hlt
      have ek : wrap64 ((k : Int) + 1) = (k : Int) + 1 := by have := HN.out; unfold wrap64; omega
      have NX : Hid (crL 4294967295#32 (l.take (k + 1)) = crB (crL 4294967295#32 (l.take k)) (BitVec.ofNat 32 b)) := by
        show _ = _
        rw [List.take_add_one, hbk]
        exact crL_snoc _ _ _
      generalize crL 4294967295#32 (l.take k) = v at *
      have ix : bits .xor .u8 (uW v % (256 : Int)) b = uW ((v ^^^ BitVec.ofNat 32 b) &&& 255#32) := idx_u3 v b hb
      have it := tab_lt v b hb
      have MM : Hid (bits .xor .u32 (uW v / (256 : Int)) (uW (taB ((v ^^^ BitVec.ofNat 32 b) &&& 255#32).toNat)) = uW (crB v (BitVec.ofNat 32 b))) := crB_m v b hb
      obtain ⟨x0, x1⟩ := bits_u8 .xor (uW v % (256 : Int)) b
      have fm := T1.out _ it
      rw [show ((v ^^^ BitVec.ofNat 32 b) &&& 255#32).toNat = (bits .xor .u8 (uW v % (256 : Int)) b).toNat by rw [ix]; rfl] at fm MM
      have hr := uW_range v
      clear hlt hab hcell hk ix it hbk hb
      go_wp2
      try rw [ek]
      exact ⟨⟨k + 1, Nat.succ_le_of_lt LT.out, by rw [NX.out, ← MM.out], rfl, trivial⟩, msr LT.out⟩
    · have kl : ¬ (k : Int) < n := by omega
      have ekn : k = n := by omega
      subst ekn
      rw [show l.take k = l by rw [← HL.out, List.take_length]]
      have EX : Hid (bits .xor .u32 (uW (crL 4294967295#32 l)) 4294967295 = uW (crcF l)) := by show _ = _; rw [← ones_u3, xor_u3]; rfl
      clear hlt hk
      go_wp2_with (refine wpList_store_row rfl 58 _ _ rfl w.heap.size _ rfl rfl _ _ AX1.out (by kernel_rfl) rfl (by kernel_rfl) ?_)
      rw [EX.out]
      refine bodyPost_ret (v := cr4 (crcF l)) (results_cell_row Tryz.results20 _ _ w.heap.size _ _ (0, 0) _ (by first | rfl | simp [Act.put]) (setRow_heap _ _ _ _ _ _ AX1.out) Tryz.underlying58 rfl (by kernel_rfl)) rfl ⟨rfl, ?_⟩
      exact row_bel AR1.out (Nat.le_refl _) _
end Go.Proofs.YtahgnmbkobiclaaGreat
namespace Go.Proofs.YtahgnmbkobiclaaGreat
open Go.RowKit
/-- The check sum's four bytes. -/
def cr4N (c : BitVec 32) : List Nat := [(uW c % (256 : Int)).toNat, (uW c / (256 : Int) % (256 : Int)).toNat, (uW c / (65536 : Int) % (256 : Int)).toNat, (uW c / (16777216 : Int) % (256 : Int)).toNat]
end Go.Proofs.YtahgnmbkobiclaaGreat
namespace Go.Proofs.YtahgnmbkobiclaaGreat
set_option linter.unusedVariables false
open Go.RowKit
/-- How an image's bytes begin. -/
def magN (k : Nat) : Nat := [114, 108, 121, 1].getD k 0
/-- The first byte of the beginning that is another one. -/
def fm (l : List Nat) : Option Nat := if 0 < l.length ∧ l.getD 0 0 ≠ 114 then some 0 else if 1 < l.length ∧ l.getD 1 0 ≠ 108 then some 1 else if 2 < l.length ∧ l.getD 2 0 ≠ 121 then some 2 else if 3 < l.length ∧ l.getD 3 0 ≠ 1 then some 3 else none
def frO (l : List Nat) : Int × Int := if 4194304 < l.length then (0, 4) else match fm l with
  | some i => (i, 200)
  | none => if l.length < 8 then (l.length, 2) else if cr4N (crcF (l.take (l.length - 4))) = l.drop (l.length - 4) then (0, 0) else (l.length - 4, 201)
theorem fm_at {l : List Nat} {k : Nat} (h4 : k < 4) (hk : k < l.length) (hp : ∀ j, j < k → l.getD j 0 = magN j) (hb : l.getD k 0 ≠ magN k) : fm l = some k := by
  unfold fm
  have h0 := hp 0
  have h1 := hp 1
  have h2 := hp 2
  match k, h4 with
  | 0, _ => rw [if_pos ⟨hk, hb⟩]
  | 1, _ => rw [if_neg (fun q => q.2 (h0 (by omega))), if_pos ⟨hk, hb⟩]
  | 2, _ => rw [if_neg (fun q => q.2 (h0 (by omega))), if_neg (fun q => q.2 (h1 (by omega))), if_pos ⟨hk, hb⟩]
  | 3, _ => rw [if_neg (fun q => q.2 (h0 (by omega))), if_neg (fun q => q.2 (h1 (by omega))), if_neg (fun q => q.2 (h2 (by omega))), if_pos ⟨hk, hb⟩]
theorem fm_no {l : List Nat} (hp : ∀ j, j < 4 → j < l.length → l.getD j 0 = magN j) : fm l = none := by
  unfold fm
  rw [if_neg (fun q => q.2 (hp 0 (by omega) q.1)), if_neg (fun q => q.2 (hp 1 (by omega) q.1)), if_neg (fun q => q.2 (hp 2 (by omega) q.1)), if_neg (fun q => q.2 (hp 3 (by omega) q.1))]
/-- Bytes of a slice. -/
def BySl (x : Option Addr) (l : List Nat) (w : World) : Prop := ∀ (k : Nat) b, l[k]? = some b → ∃ kb o, x = some ⟨kb, o, none⟩ ∧ kb < w.heap.size ∧ w.cell? ⟨kb, o + k, none⟩ = some (.int .u8 b)
theorem frO_bad {l : List Nat} {k : Nat} (hl : l.length ≤ 4194304) (h : fm l = some k) : frO l = ((k : Int), 200) := by
  unfold frO
  rw [if_neg (by omega), h]
theorem frO_short {l : List Nat} (hl : l.length < 8) (h : fm l = none) : frO l = ((l.length : Int), 2) := by
  unfold frO
  rw [if_neg (by omega), h]
  show (if l.length < 8 then _ else _) = _
  rw [if_pos hl]
theorem bl_drewN {w V : World} (h : Below w.heap.size w V) (k : Nat) : Below w.heap.size w (V.drewN k) := h.trans ⟨rfl, rfl, rfl, Nat.le_refl _, fun _ _ => rfl⟩
theorem drop4 {l : List Nat} {E a b c d : Nat} (h : l.length = E + 4) (h0 : l[E]? = some a) (h1 : l[E + 1]? = some b) (h2 : l[E + 2]? = some c) (h3 : l[E + 3]? = some d) : l.drop E = [a, b, c, d] := by
  apply List.ext_getElem?
  intro i
  rw [List.getElem?_drop]
  match i with
  | 0 => simpa using h0
  | 1 => simpa using h1
  | 2 => simpa using h2
  | 3 => simpa using h3
  | k + 4 => rw [List.getElem?_eq_none (by omega)]; rfl
set_option maxRecDepth 20000 in
set_option maxHeartbeats 8000000 in
theorem frameX (x : Option Addr) (c : Nat) (l : List Nat) (w : World) (h8 : ∀ b ∈ l, b < 256) (hx : BySl x l w) (hc : l.length ≤ c) (hn : l.length ≤ 1099511627776) :
    Calls Tryz.prog 10 #[.slice x l.length c] w fun e w' => e = .returned (.tuple #[.int .i64 (frO l).1, .int .i64 (frO l).2]) ∧ Below w.heap.size w w' := by
  have HX : Hid (BySl x l w) := hx
  have HC : Hid (l.length ≤ c) := hc
  have HN : Hid (l.length ≤ 1099511627776) := hn
  have H8 : Hid (∀ b ∈ l, b < 256) := h8
  clear hx hc hn h8
  by_cases hb : 4194304 < l.length
  · have hb' : (4194304 : Int) < l.length := by omega
    have e : frO l = (0, 4) := by unfold frO; rw [if_pos hb]
    rw [e]
    clear hb e
    go_enter Tryz.func10, Tryz.ntmps10
    go_wp2
    go_ret2
    exact ⟨rfl, Below.refl _ _⟩
  · have hb' : ¬ (4194304 : Int) < l.length := by omega
    have LN : Hid (l.length ≤ 4194304) := by show _ ≤ _; omega
    obtain ⟨u, eu⟩ : ∃ u, frO l = u := ⟨_, rfl⟩
    rw [eu]
    have RE : Hid (frO l = u) := eu
    clear hb eu
    by_cases h4 : (l.length : Int) ≤ 4
    · have h5 : l.length ≤ 4 := by omega
      go_enter Tryz.func10, Tryz.ntmps10
      go_upto_region 3 with fail
      go_wp2
      go_loopw [4, 12] (fun a i wr => ∃ k : Nat, i = .int .i64 k ∧ k ≤ l.length ∧ (∀ j, j < k → l.getD j 0 = magN j) ∧ Below w.heap.size w wr) (fun _ i _ => l.length - (intOf i).toNat)
      case atStart => exact ⟨0, rfl, Nat.zero_le _, fun j hj => absurd hj (Nat.not_lt_zero _), Below.refl _ _⟩
      case round =>
        obtain ⟨k, rfl, hkM, hE, hW⟩ := hrel
        by_cases hk : k < l.length
        · have h44 : k = 0 ∨ k = 1 ∨ k = 2 ∨ k = 3 := by omega
          have hkl : k < l.length := by omega
          obtain ⟨b, eb⟩ : ∃ b, l.getD k 0 = b := ⟨_, rfl⟩
          have hb : l[k]? = some b := by rw [← eb, List.getD_eq_getElem?_getD, List.getElem?_eq_getElem hkl]; rfl
          obtain ⟨kb, o, hx, hk1, hk2⟩ := HX.out k _ hb
          subst hx
          have v0 := (hW.cell hk1).trans hk2
          have hb8 := H8.out _ (List.mem_of_getElem? hb)
          have BW : Hid (Below w.heap.size w wr) := hW
          have EQ : Hid (∀ j, j < k → l.getD j 0 = magN j) := hE
          have GD : Hid (l.getD k 0 = b ∧ k < l.length ∧ k < l.length) := ⟨eb, hkl, hk⟩
          clear hW hE hk1 hk2 hb eb hkM hk
          rcases h44 with h | h | h | h
          · subst h
            have kM : (((0 : Nat) : Int)) < l.length := by have := GD.out; omega
            have kn : (((0 : Nat) : Int)) < l.length := by omega
            try rw [Nat.add_zero] at v0
            clear hkl
            by_cases q : b = 114
            · subst q
              go_upto_region 6 with fail
              go_quiet (fail)
              obtain ⟨W, eW⟩ : ∃ W, W = wr.drewN nq := ⟨_, rfl⟩
              rw [← eW]
              have B2 : Hid (Below w.heap.size w W) := by rw [eW]; exact bl_drewN BW.out _
              clear eW v0
              go_wp2
              exact ⟨⟨0 + 1, rfl, by have := GD.out; omega, fun j hj => by rcases Nat.lt_succ_iff_lt_or_eq.1 hj with z | z; exact EQ.out j z; subst z; exact GD.out.1, B2.out⟩, by have := GD.out; show l.length - (((0 : Nat) : Int) + 1).toNat < l.length - (((0 : Nat) : Int)).toNat; omega⟩
            · have q' : ((b : Int) == 114) = false := by rw [beq_eq_false_iff_ne]; omega
              have q2 : ¬ (b : Int) = 114 := by omega
              have q3 : ((b : Int) != 114) = true := by rw [bne_iff_ne]; omega
              have q4 : ¬ b = 114 := q
              have U : Hid (u = (((0 : Nat) : Int), 200)) := by
                have z := frO_bad LN.out (fm_at (k := 0) (by omega) GD.out.2.1 EQ.out (by rw [GD.out.1]; exact q))
                show _ = _
                rw [← RE.out]; exact z
              clear q
              go_upto_region 6 with fail
              go_quiet (fail)
              obtain ⟨W, eW⟩ : ∃ W, W = wr.drewN nq := ⟨_, rfl⟩
              rw [← eW]
              have B2 : Hid (Below w.heap.size w W) := by rw [eW]; exact bl_drewN BW.out _
              clear eW v0
              go_wp2
              all_goals first
                | (rename_i hh; exact absurd (show ((b : Int) != 114) = false from hh) (by rw [q3]; decide))
                | (go_ret2; exact ⟨by rw [U.out]; rfl, B2.out⟩)
          · subst h
            have kM : (((1 : Nat) : Int)) < l.length := by have := GD.out; omega
            have kn : (((1 : Nat) : Int)) < l.length := by omega
            try rw [Nat.add_zero] at v0
            clear hkl
            by_cases q : b = 108
            · subst q
              go_upto_region 6 with fail
              go_quiet (fail)
              obtain ⟨W, eW⟩ : ∃ W, W = wr.drewN nq := ⟨_, rfl⟩
              rw [← eW]
              have B2 : Hid (Below w.heap.size w W) := by rw [eW]; exact bl_drewN BW.out _
              clear eW v0
              go_wp2
              exact ⟨⟨1 + 1, rfl, by have := GD.out; omega, fun j hj => by rcases Nat.lt_succ_iff_lt_or_eq.1 hj with z | z; exact EQ.out j z; subst z; exact GD.out.1, B2.out⟩, by have := GD.out; show l.length - (((1 : Nat) : Int) + 1).toNat < l.length - (((1 : Nat) : Int)).toNat; omega⟩
            · have q' : ((b : Int) == 108) = false := by rw [beq_eq_false_iff_ne]; omega
              have q2 : ¬ (b : Int) = 108 := by omega
              have q3 : ((b : Int) != 108) = true := by rw [bne_iff_ne]; omega
              have q4 : ¬ b = 108 := q
              have U : Hid (u = (((1 : Nat) : Int), 200)) := by
                have z := frO_bad LN.out (fm_at (k := 1) (by omega) GD.out.2.1 EQ.out (by rw [GD.out.1]; exact q))
                show _ = _
                rw [← RE.out]; exact z
              clear q
              go_upto_region 6 with fail
              go_quiet (fail)
              obtain ⟨W, eW⟩ : ∃ W, W = wr.drewN nq := ⟨_, rfl⟩
              rw [← eW]
              have B2 : Hid (Below w.heap.size w W) := by rw [eW]; exact bl_drewN BW.out _
              clear eW v0
              go_wp2
              all_goals first
                | (rename_i hh; exact absurd (show ((b : Int) != 108) = false from hh) (by rw [q3]; decide))
                | (go_ret2; exact ⟨by rw [U.out]; rfl, B2.out⟩)
          · subst h
            have kM : (((2 : Nat) : Int)) < l.length := by have := GD.out; omega
            have kn : (((2 : Nat) : Int)) < l.length := by omega
            try rw [Nat.add_zero] at v0
            clear hkl
            by_cases q : b = 121
            · subst q
              go_upto_region 6 with fail
              go_quiet (fail)
              obtain ⟨W, eW⟩ : ∃ W, W = wr.drewN nq := ⟨_, rfl⟩
              rw [← eW]
              have B2 : Hid (Below w.heap.size w W) := by rw [eW]; exact bl_drewN BW.out _
              clear eW v0
              go_wp2
              exact ⟨⟨2 + 1, rfl, by have := GD.out; omega, fun j hj => by rcases Nat.lt_succ_iff_lt_or_eq.1 hj with z | z; exact EQ.out j z; subst z; exact GD.out.1, B2.out⟩, by have := GD.out; show l.length - (((2 : Nat) : Int) + 1).toNat < l.length - (((2 : Nat) : Int)).toNat; omega⟩
            · have q' : ((b : Int) == 121) = false := by rw [beq_eq_false_iff_ne]; omega
              have q2 : ¬ (b : Int) = 121 := by omega
              have q3 : ((b : Int) != 121) = true := by rw [bne_iff_ne]; omega
              have q4 : ¬ b = 121 := q
              have U : Hid (u = (((2 : Nat) : Int), 200)) := by
                have z := frO_bad LN.out (fm_at (k := 2) (by omega) GD.out.2.1 EQ.out (by rw [GD.out.1]; exact q))
                show _ = _
                rw [← RE.out]; exact z
              clear q
              go_upto_region 6 with fail
              go_quiet (fail)
              obtain ⟨W, eW⟩ : ∃ W, W = wr.drewN nq := ⟨_, rfl⟩
              rw [← eW]
              have B2 : Hid (Below w.heap.size w W) := by rw [eW]; exact bl_drewN BW.out _
              clear eW v0
              go_wp2
              all_goals first
                | (rename_i hh; exact absurd (show ((b : Int) != 121) = false from hh) (by rw [q3]; decide))
                | (go_ret2; exact ⟨by rw [U.out]; rfl, B2.out⟩)
          · subst h
            have kM : (((3 : Nat) : Int)) < l.length := by have := GD.out; omega
            have kn : (((3 : Nat) : Int)) < l.length := by omega
            try rw [Nat.add_zero] at v0
            clear hkl
            by_cases q : b = 1
            · subst q
              go_upto_region 6 with fail
              go_quiet (fail)
              obtain ⟨W, eW⟩ : ∃ W, W = wr.drewN nq := ⟨_, rfl⟩
              rw [← eW]
              have B2 : Hid (Below w.heap.size w W) := by rw [eW]; exact bl_drewN BW.out _
              clear eW v0
              go_wp2
              exact ⟨⟨3 + 1, rfl, by have := GD.out; omega, fun j hj => by rcases Nat.lt_succ_iff_lt_or_eq.1 hj with z | z; exact EQ.out j z; subst z; exact GD.out.1, B2.out⟩, by have := GD.out; show l.length - (((3 : Nat) : Int) + 1).toNat < l.length - (((3 : Nat) : Int)).toNat; omega⟩
            · have q' : ((b : Int) == 1) = false := by rw [beq_eq_false_iff_ne]; omega
              have q2 : ¬ (b : Int) = 1 := by omega
              have q3 : ((b : Int) != 1) = true := by rw [bne_iff_ne]; omega
              have q4 : ¬ b = 1 := q
              have U : Hid (u = (((3 : Nat) : Int), 200)) := by
                have z := frO_bad LN.out (fm_at (k := 3) (by omega) GD.out.2.1 EQ.out (by rw [GD.out.1]; exact q))
                show _ = _
                rw [← RE.out]; exact z
              clear q
              go_upto_region 6 with fail
              go_quiet (fail)
              obtain ⟨W, eW⟩ : ∃ W, W = wr.drewN nq := ⟨_, rfl⟩
              rw [← eW]
              have B2 : Hid (Below w.heap.size w W) := by rw [eW]; exact bl_drewN BW.out _
              clear eW v0
              go_wp2
              all_goals first
                | (rename_i hh; exact absurd (show ((b : Int) != 1) = false from hh) (by rw [q3]; decide))
                | (go_ret2; exact ⟨by rw [U.out]; rfl, B2.out⟩)
        · have ek : k = l.length := by omega
          subst ek
          have BW : Hid (Below w.heap.size w wr) := hW
          have EQ : Hid (∀ j, j < l.length → l.getD j 0 = magN j) := hE
          clear hk hkM hW hE
          have U : Hid (u = ((l.length : Int), 2)) := by
            have z := frO_short (l := l) (by omega) (fm_no (fun j h1 h2 => EQ.out j h2))
            show _ = _
            rw [← RE.out]; exact z
          have e1 : wrap64 ((l.length : Int) - 4) = (l.length : Int) - 4 := by have := LN.out; unfold wrap64; omega
          have e2 : (l.length : Int) - 4 < 4 := by omega
          go_wp2
          go_ret2
          exact ⟨by rw [U.out]; rfl, BW.out⟩
    · have h5 : ¬ l.length ≤ 4 := by omega
      go_enter Tryz.func10, Tryz.ntmps10
      go_upto_region 3 with fail
      go_wp2
      go_loopw [4, 12] (fun a i wr => ∃ k : Nat, i = .int .i64 k ∧ k ≤ 4 ∧ (∀ j, j < k → l.getD j 0 = magN j) ∧ Below w.heap.size w wr) (fun _ i _ => 4 - (intOf i).toNat)
      case atStart => exact ⟨0, rfl, Nat.zero_le _, fun j hj => absurd hj (Nat.not_lt_zero _), Below.refl _ _⟩
      case round =>
        obtain ⟨k, rfl, hkM, hE, hW⟩ := hrel
        by_cases hk : k < 4
        · have h44 : k = 0 ∨ k = 1 ∨ k = 2 ∨ k = 3 := by omega
          have hkl : k < l.length := by omega
          obtain ⟨b, eb⟩ : ∃ b, l.getD k 0 = b := ⟨_, rfl⟩
          have hb : l[k]? = some b := by rw [← eb, List.getD_eq_getElem?_getD, List.getElem?_eq_getElem hkl]; rfl
          obtain ⟨kb, o, hx, hk1, hk2⟩ := HX.out k _ hb
          subst hx
          have v0 := (hW.cell hk1).trans hk2
          have hb8 := H8.out _ (List.mem_of_getElem? hb)
          have BW : Hid (Below w.heap.size w wr) := hW
          have EQ : Hid (∀ j, j < k → l.getD j 0 = magN j) := hE
          have GD : Hid (l.getD k 0 = b ∧ k < l.length ∧ k < 4) := ⟨eb, hkl, hk⟩
          clear hW hE hk1 hk2 hb eb hkM hk
          rcases h44 with h | h | h | h
          · subst h
            have kM : (((0 : Nat) : Int)) < 4 := by have := GD.out; omega
            have kn : (((0 : Nat) : Int)) < l.length := by omega
            try rw [Nat.add_zero] at v0
            clear hkl
            by_cases q : b = 114
            · subst q
              go_upto_region 6 with fail
              go_quiet (fail)
              obtain ⟨W, eW⟩ : ∃ W, W = wr.drewN nq := ⟨_, rfl⟩
              rw [← eW]
              have B2 : Hid (Below w.heap.size w W) := by rw [eW]; exact bl_drewN BW.out _
              clear eW v0
              go_wp2
              exact ⟨⟨0 + 1, rfl, by have := GD.out; omega, fun j hj => by rcases Nat.lt_succ_iff_lt_or_eq.1 hj with z | z; exact EQ.out j z; subst z; exact GD.out.1, B2.out⟩, by have := GD.out; show 4 - (((0 : Nat) : Int) + 1).toNat < 4 - (((0 : Nat) : Int)).toNat; omega⟩
            · have q' : ((b : Int) == 114) = false := by rw [beq_eq_false_iff_ne]; omega
              have q2 : ¬ (b : Int) = 114 := by omega
              have q3 : ((b : Int) != 114) = true := by rw [bne_iff_ne]; omega
              have q4 : ¬ b = 114 := q
              have U : Hid (u = (((0 : Nat) : Int), 200)) := by
                have z := frO_bad LN.out (fm_at (k := 0) (by omega) GD.out.2.1 EQ.out (by rw [GD.out.1]; exact q))
                show _ = _
                rw [← RE.out]; exact z
              clear q
              go_upto_region 6 with fail
              go_quiet (fail)
              obtain ⟨W, eW⟩ : ∃ W, W = wr.drewN nq := ⟨_, rfl⟩
              rw [← eW]
              have B2 : Hid (Below w.heap.size w W) := by rw [eW]; exact bl_drewN BW.out _
              clear eW v0
              go_wp2
              all_goals first
                | (rename_i hh; exact absurd (show ((b : Int) != 114) = false from hh) (by rw [q3]; decide))
                | (go_ret2; exact ⟨by rw [U.out]; rfl, B2.out⟩)
          · subst h
            have kM : (((1 : Nat) : Int)) < 4 := by have := GD.out; omega
            have kn : (((1 : Nat) : Int)) < l.length := by omega
            try rw [Nat.add_zero] at v0
            clear hkl
            by_cases q : b = 108
            · subst q
              go_upto_region 6 with fail
              go_quiet (fail)
              obtain ⟨W, eW⟩ : ∃ W, W = wr.drewN nq := ⟨_, rfl⟩
              rw [← eW]
              have B2 : Hid (Below w.heap.size w W) := by rw [eW]; exact bl_drewN BW.out _
              clear eW v0
              go_wp2
              exact ⟨⟨1 + 1, rfl, by have := GD.out; omega, fun j hj => by rcases Nat.lt_succ_iff_lt_or_eq.1 hj with z | z; exact EQ.out j z; subst z; exact GD.out.1, B2.out⟩, by have := GD.out; show 4 - (((1 : Nat) : Int) + 1).toNat < 4 - (((1 : Nat) : Int)).toNat; omega⟩
            · have q' : ((b : Int) == 108) = false := by rw [beq_eq_false_iff_ne]; omega
              have q2 : ¬ (b : Int) = 108 := by omega
              have q3 : ((b : Int) != 108) = true := by rw [bne_iff_ne]; omega
              have q4 : ¬ b = 108 := q
              have U : Hid (u = (((1 : Nat) : Int), 200)) := by
                have z := frO_bad LN.out (fm_at (k := 1) (by omega) GD.out.2.1 EQ.out (by rw [GD.out.1]; exact q))
                show _ = _
                rw [← RE.out]; exact z
              clear q
              go_upto_region 6 with fail
              go_quiet (fail)
              obtain ⟨W, eW⟩ : ∃ W, W = wr.drewN nq := ⟨_, rfl⟩
              rw [← eW]
              have B2 : Hid (Below w.heap.size w W) := by rw [eW]; exact bl_drewN BW.out _
              clear eW v0
              go_wp2
              all_goals first
                | (rename_i hh; exact absurd (show ((b : Int) != 108) = false from hh) (by rw [q3]; decide))
                | (go_ret2; exact ⟨by rw [U.out]; rfl, B2.out⟩)
          · subst h
            have kM : (((2 : Nat) : Int)) < 4 := by have := GD.out; omega
            have kn : (((2 : Nat) : Int)) < l.length := by omega
            try rw [Nat.add_zero] at v0
            clear hkl
            by_cases q : b = 121
            · subst q
              go_upto_region 6 with fail
              go_quiet (fail)
              obtain ⟨W, eW⟩ : ∃ W, W = wr.drewN nq := ⟨_, rfl⟩
              rw [← eW]
              have B2 : Hid (Below w.heap.size w W) := by rw [eW]; exact bl_drewN BW.out _
              clear eW v0
              go_wp2
              exact ⟨⟨2 + 1, rfl, by have := GD.out; omega, fun j hj => by rcases Nat.lt_succ_iff_lt_or_eq.1 hj with z | z; exact EQ.out j z; subst z; exact GD.out.1, B2.out⟩, by have := GD.out; show 4 - (((2 : Nat) : Int) + 1).toNat < 4 - (((2 : Nat) : Int)).toNat; omega⟩
            · have q' : ((b : Int) == 121) = false := by rw [beq_eq_false_iff_ne]; omega
              have q2 : ¬ (b : Int) = 121 := by omega
              have q3 : ((b : Int) != 121) = true := by rw [bne_iff_ne]; omega
              have q4 : ¬ b = 121 := q
              have U : Hid (u = (((2 : Nat) : Int), 200)) := by
                have z := frO_bad LN.out (fm_at (k := 2) (by omega) GD.out.2.1 EQ.out (by rw [GD.out.1]; exact q))
                show _ = _
                rw [← RE.out]; exact z
              clear q
              go_upto_region 6 with fail
              go_quiet (fail)
              obtain ⟨W, eW⟩ : ∃ W, W = wr.drewN nq := ⟨_, rfl⟩
              rw [← eW]
              have B2 : Hid (Below w.heap.size w W) := by rw [eW]; exact bl_drewN BW.out _
              clear eW v0
              go_wp2
              all_goals first
                | (rename_i hh; exact absurd (show ((b : Int) != 121) = false from hh) (by rw [q3]; decide))
                | (go_ret2; exact ⟨by rw [U.out]; rfl, B2.out⟩)
          · subst h
            have kM : (((3 : Nat) : Int)) < 4 := by have := GD.out; omega
            have kn : (((3 : Nat) : Int)) < l.length := by omega
            try rw [Nat.add_zero] at v0
            clear hkl
            by_cases q : b = 1
            · subst q
              go_upto_region 6 with fail
              go_quiet (fail)
              obtain ⟨W, eW⟩ : ∃ W, W = wr.drewN nq := ⟨_, rfl⟩
              rw [← eW]
              have B2 : Hid (Below w.heap.size w W) := by rw [eW]; exact bl_drewN BW.out _
              clear eW v0
              go_wp2
              exact ⟨⟨3 + 1, rfl, by have := GD.out; omega, fun j hj => by rcases Nat.lt_succ_iff_lt_or_eq.1 hj with z | z; exact EQ.out j z; subst z; exact GD.out.1, B2.out⟩, by have := GD.out; show 4 - (((3 : Nat) : Int) + 1).toNat < 4 - (((3 : Nat) : Int)).toNat; omega⟩
            · have q' : ((b : Int) == 1) = false := by rw [beq_eq_false_iff_ne]; omega
              have q2 : ¬ (b : Int) = 1 := by omega
              have q3 : ((b : Int) != 1) = true := by rw [bne_iff_ne]; omega
              have q4 : ¬ b = 1 := q
              have U : Hid (u = (((3 : Nat) : Int), 200)) := by
                have z := frO_bad LN.out (fm_at (k := 3) (by omega) GD.out.2.1 EQ.out (by rw [GD.out.1]; exact q))
                show _ = _
                rw [← RE.out]; exact z
              clear q
              go_upto_region 6 with fail
              go_quiet (fail)
              obtain ⟨W, eW⟩ : ∃ W, W = wr.drewN nq := ⟨_, rfl⟩
              rw [← eW]
              have B2 : Hid (Below w.heap.size w W) := by rw [eW]; exact bl_drewN BW.out _
              clear eW v0
              go_wp2
              all_goals first
                | (rename_i hh; exact absurd (show ((b : Int) != 1) = false from hh) (by rw [q3]; decide))
                | (go_ret2; exact ⟨by rw [U.out]; rfl, B2.out⟩)
        · have ek : k = 4 := by omega
          subst ek
          have BW : Hid (Below w.heap.size w wr) := hW
          have EQ : Hid (∀ j, j < 4 → l.getD j 0 = magN j) := hE
          clear hk hkM hW hE
          by_cases h8 : l.length < 8
          · have U : Hid (u = ((l.length : Int), 2)) := by
              have z := frO_short (l := l) (by omega) (fm_no (fun j h1 h2 => EQ.out j h1))
              show _ = _
              rw [← RE.out]; exact z
            have e1 : wrap64 ((l.length : Int) - 4) = (l.length : Int) - 4 := by have := LN.out; unfold wrap64; omega
            have e2 : (l.length : Int) - 4 < 4 := by omega
            go_wp2
            go_ret2
            exact ⟨by rw [U.out]; rfl, BW.out⟩
          · obtain ⟨E, hE⟩ : ∃ E, E = l.length - 4 := ⟨_, rfl⟩
            have e1 : wrap64 ((l.length : Int) - 4) = (E : Int) := by have := LN.out; unfold wrap64; omega
            have e2 : ¬ (E : Int) < 4 := by omega
            have e3 : ((E : Nat) : Int).toNat = E := by omega
            have e4 : E ≤ c := by have := HC.out; omega
            have e5 : (E : Int) ≤ c := by omega
            have e6 : (E : Int) ≤ l.length := by omega
            have e7 : E ≤ l.length := by omega
            have e8 : l.length - E = 4 := by omega
            have e9 : ¬ c = E := by have := HC.out; omega
            have ea : ¬ c - E = 0 := by omega
            have eb : l.length ≤ c := HC.out
            obtain ⟨b, hb⟩ : ∃ b, l[0]? = some b := ⟨_, List.getElem?_eq_getElem (by omega)⟩
            obtain ⟨kb, o, hx, hk1, _⟩ := HX.out 0 _ hb
            subst hx
            have kl : kb < wr.heap.size := Nat.lt_of_lt_of_le hk1 BW.out.size
            have CL : ∀ (i v : Nat), l[i]? = some v → wr.cell? ⟨kb, o + i, none⟩ = some (.int .u8 v) := fun i v hv => by
              obtain ⟨kb', o', hx, h1, h2⟩ := HX.out i v hv
              cases hx
              exact (BW.out.cell h1).trans h2
            obtain ⟨b0, hb0⟩ : ∃ b, l[E]? = some b := ⟨_, List.getElem?_eq_getElem (by omega)⟩
            obtain ⟨b1, hb1⟩ : ∃ b, l[E + 1]? = some b := ⟨_, List.getElem?_eq_getElem (by omega)⟩
            obtain ⟨b2, hb2⟩ : ∃ b, l[E + 2]? = some b := ⟨_, List.getElem?_eq_getElem (by omega)⟩
            obtain ⟨b3, hb3⟩ : ∃ b, l[E + 3]? = some b := ⟨_, List.getElem?_eq_getElem (by omega)⟩
            have DR : Hid (l.drop E = [b0, b1, b2, b3]) := drop4 (by omega) hb0 hb1 hb2 hb3
            have G8 : Hid (b0 < 256 ∧ b1 < 256 ∧ b2 < 256 ∧ b3 < 256) := ⟨H8.out _ (List.mem_of_getElem? hb0), H8.out _ (List.mem_of_getElem? hb1), H8.out _ (List.mem_of_getElem? hb2), H8.out _ (List.mem_of_getElem? hb3)⟩
            have v0 := CL _ _ hb0
            have v1 := CL _ _ hb1
            have v2 := CL _ _ hb2
            have v3 := CL _ _ hb3
            rw [← Nat.add_assoc] at v1 v2 v3
            have SM : Hid (∀ y : Sub wr, Calls Tryz.prog 20 #[.slice (some ⟨kb, o, none⟩) E c] y.w fun e w' => e = .returned (cr4 (crcF (l.take E))) ∧ Below y.w.heap.size y.w w') := fun y =>
              sumOfX_of (some ⟨kb, o, none⟩) E c (l.take E) y.w (by have := LN.out; omega) (by rw [List.length_take]; omega) (fun b hb => H8.out b (List.mem_of_mem_take hb)) (fun i v hv => ⟨⟨kb, o, none⟩, rfl, Nat.lt_of_lt_of_le kl y.h.size, by
                have hv' : l[i]? = some v := by rw [List.getElem?_take] at hv; split at hv; exact hv; cases hv
                rw [add_kb]
                exact (y.h.cell kl).trans (CL i v hv')⟩)
            have UU : Hid (u = if cr4N (crcF (l.take E)) = l.drop E then (0, 0) else ((E : Int), 201)) := by
              show _ = _
              rw [← RE.out]
              unfold frO
              rw [if_neg (by have := LN.out; omega), fm_no (fun j h1 h2 => EQ.out j h1)]
              show (if l.length < 8 then _ else _) = _
              rw [if_neg h8, hE]
              congr 1
              show (((l.length : Int) - 4), (201 : Int)) = (((l.length - 4 : Nat) : Int), 201)
              congr 1
              omega
            generalize crcF (l.take E) = cc at *
            have h6 : ¬ (l.length : Int) - 4 < 4 := by omega
            have h7 : ((l.length : Int) - 4).toNat = l.length - 4 := by omega
            have h9 : (0 : Int) ≤ (l.length : Int) - 4 := by omega
            have h10 : (l.length : Int) - 4 ≤ c := by omega
            have h11 : (l.length : Int) - 4 ≤ l.length := by omega
            clear CL hb hb0 hb1 hb2 hb3 hk1 h8 h5 e1 e2 e3
            subst hE
            go_upto_region 12 with fail
            unfold cr4 at SM
            refine wp_region_sub2 (by kernel_rfl) (by kernel_rfl) ?_
            intro cx
            (first | go_big_quiet_skip | (go_big_quiet_want; go_big_quiet_op; first | go_big_quiet_on | (refine ⟨_, fun _ => rfl, ?_⟩; go_big_quiet_on) | go_big_quiet_call (first | (go_at_call 20; exact calls_sub (SM.out _)))))
            (first | go_big_quiet_skip | (go_big_quiet_want; go_big_quiet_op; first | go_big_quiet_on | (refine ⟨_, fun _ => rfl, ?_⟩; go_big_quiet_on) | go_big_quiet_call (first | (go_at_call 20; exact calls_sub (SM.out _)))))
            (first | go_big_quiet_skip | (go_big_quiet_want; go_big_quiet_op; first | go_big_quiet_on | (refine ⟨_, fun _ => rfl, ?_⟩; go_big_quiet_on) | go_big_quiet_call (first | (go_at_call 20; exact calls_sub (SM.out _)))))
            (first | go_big_quiet_skip | (go_big_quiet_want; go_big_quiet_op; first | go_big_quiet_on | (refine ⟨_, fun _ => rfl, ?_⟩; go_big_quiet_on) | go_big_quiet_call (first | (go_at_call 20; exact calls_sub (SM.out _)))))
            (first | go_big_quiet_skip | (go_big_quiet_want; go_big_quiet_op; first | go_big_quiet_on | (refine ⟨_, fun _ => rfl, ?_⟩; go_big_quiet_on) | go_big_quiet_call (first | (go_at_call 20; exact calls_sub (SM.out _)))))
            (first | go_big_quiet_skip | (go_big_quiet_want; go_big_quiet_op; first | go_big_quiet_on | (refine ⟨_, fun _ => rfl, ?_⟩; go_big_quiet_on) | go_big_quiet_call (first | (go_at_call 20; exact calls_sub (SM.out _)))))
            (first | go_big_quiet_skip | (go_big_quiet_want; go_big_quiet_op; first | go_big_quiet_on | (refine ⟨_, fun _ => rfl, ?_⟩; go_big_quiet_on) | go_big_quiet_call (first | (go_at_call 20; exact calls_sub (SM.out _)))))
            go_big_quiet_want
            go_big_quiet_op
            refine ⟨.pointer (some ⟨kb, o + (l.length - 4), none⟩), fun y => by rw [arr4]; exact ⟨rfl, rfl⟩, ?_⟩
            go_big_quiet_on
            go_big_quiet_want
            go_big_quiet_op
            refine ⟨_, fun _ => rfl, ?_⟩
            go_big_quiet_on
            go_big_quiet_want
            go_big_quiet_op
            refine ⟨.bool (!decide (uW cc % 256 = b0 ∧ uW cc / 256 % 256 = b1 ∧ uW cc / 65536 % 256 = b2 ∧ uW cc / 16777216 % 256 = b3)), fun y => by rw [eqA4 _ _ _ _ _ _ _ _ _ (wf8 _ (by omega) (by omega)) (wf8 _ (by omega) (by omega)) (wf8 _ (by omega) (by omega)) (wf8 _ (by omega) (by omega)) (wf8 _ (by omega) (by have := G8.out.1; omega)) (wf8 _ (by omega) (by have := G8.out.2.1; omega)) (wf8 _ (by omega) (by have := G8.out.2.2.1; omega)) (wf8 _ (by omega) (by have := G8.out.2.2.2; omega))]; exact ⟨rfl, rfl⟩, ?_⟩
            go_big_quiet_on
            refine wpQuiet_nil ?_
            rintro _ ⟨y, rfl⟩
            have BY : Hid (Below w.heap.size w y.w) := BW.out.trans (y.h.mono BW.out.size)
            clear cx
            by_cases q : uW cc % 256 = b0 ∧ uW cc / 256 % 256 = b1 ∧ uW cc / 65536 % 256 = b2 ∧ uW cc / 16777216 % 256 = b3
            · have qd : decide (uW cc % 256 = b0 ∧ uW cc / 256 % 256 = b1 ∧ uW cc / 65536 % 256 = b2 ∧ uW cc / 16777216 % 256 = b3) = true := decide_eq_true q
              rw [qd]
              have U : Hid (u = (0, 0)) := by
                have z := UU.out
                rw [if_pos (by rw [DR.out]; unfold cr4N; rw [q.1, q.2.1, q.2.2.1, q.2.2.2]; rfl)] at z
                exact z
              clear q qd
              go_wp2
              go_ret2
              exact ⟨by rw [U.out]; rfl, BY.out⟩
            · have qd : decide (uW cc % 256 = b0 ∧ uW cc / 256 % 256 = b1 ∧ uW cc / 65536 % 256 = b2 ∧ uW cc / 16777216 % 256 = b3) = false := decide_eq_false q
              rw [qd]
              have U : Hid (u = (((l.length - 4 : Nat) : Int), 201)) := by
                have z := UU.out
                rw [if_neg (by
                  rw [DR.out]
                  unfold cr4N
                  intro e
                  apply q
                  injection e with e0 e
                  injection e with e1 e
                  injection e with e2 e
                  injection e with e3 e
                  omega)] at z
                exact z
              have el : ((l.length - 4 : Nat) : Int) = (l.length : Int) - 4 := by omega
              clear q qd
              go_wp2
              go_ret2
              exact ⟨by rw [U.out, el]; rfl, BY.out⟩
end Go.Proofs.YtahgnmbkobiclaaGreat
namespace Go.Proofs.YtahgnmbkobiclaaGreat
set_option linter.unusedVariables false
open Go.RowKit
theorem u64_wrap (x : Nat) (h : x < 18446744073709551616) : IntKind.u64.wrap (wrap64 (x : Int)) = (x : Int) := by
  rw [u64_mod]
  unfold wrap64
  omega
theorem rdU_lt {bs : List Nat} (s : RS) (h : ∀ v ∈ bs, v < 256) : rdU bs s < 18446744073709551616 := by
  unfold rdU
  split
  · rename_i q
    have := leN_lt (a := (bs.drop s.p).take 8) (drop_mem h)
    rw [drop_len _ _ _ q.2] at this
    exact this
  · omega
theorem u8_wrap (x : Nat) (h : x < 256) : IntKind.u8.wrap (x : Int) = (x : Int) := by
  show (x : Int) % 256 = x
  omega
section
variable (g kb o c : Nat) (bs : List Nat)
theorem valueC (s : RS) (w : World) (h : Cu g kb o c bs s w) : Calls Tryz.prog 62 #[.pointer (some ⟨g, 0, none⟩)] w fun e w' => e = .returned (.agg #[.int .u8 (rdV bs s).1.1, .int .u64 (rdV bs s).1.2.1, .string (rdV bs s).1.2.2]) ∧ Cu g kb o c bs (rdV bs s).2 w' ∧ w.grownBy w' (some g) := by
  have e : IntKind.u64.wrap (rdN bs (rdB bs s).2).1 = (rdU bs (rdB bs s).2 : Int) := by rw [rdN_U]; exact u64_wrap _ (rdU_lt _ h.b8)
  have q := valueCG g kb o c bs s _ _ _ _ _ _ (u8_wrap _ (rdB_lt s h.b8)) (byteC g kb o c bs s) (bitsC g kb o c bs _) (textC g kb o c bs _) w h
  rw [← e] at q
  exact q
theorem opC' (s : RS) (w : World) (h : Cu g kb o c bs s w) : Calls Tryz.prog 63 #[.pointer (some ⟨g, 0, none⟩)] w fun e w' => e = .returned (.agg #[.int .i64 (rdOp bs s).1.cd, .int .i64 (rdOp bs s).1.a, .int .i64 (rdOp bs s).1.b, .int .i64 (rdOp bs s).1.c, .int .i64 (rdOp bs s).1.d, .int .i64 (rdOp bs s).1.lo, .int .i64 (rdOp bs s).1.hi, .int .u8 (rdOp bs s).1.vk, .int .u64 (rdOp bs s).1.vb, .string (rdOp bs s).1.vs]) ∧ Cu g kb o c bs (rdOp bs s).2 w' ∧ w.grownBy w' (some g) :=
  opCG g kb o c bs s (rdNs bs 1 s) (rdNs bs 2 s) (rdNs bs 3 s) (rdNs bs 4 s) (rdNs bs 5 s) (rdNs bs 6 s) (rdNs bs 7 s) _ _ _ _ _ _ _ _ (rdV bs (rdNs bs 7 s)).1 (numberC g kb o c bs s) (numberC g kb o c bs _) (numberC g kb o c bs _) (numberC g kb o c bs _) (numberC g kb o c bs _) (numberC g kb o c bs _) (numberC g kb o c bs _) (valueC g kb o c bs _) w h
theorem cellC (s : RS) (w : World) (h : Cu g kb o c bs s w) : Calls Tryz.prog 30 #[.pointer (some ⟨g, 0, none⟩)] w fun e w' => e = .returned (.agg #[.int .u8 (rdCe bs s).1.kd, .bool (rdCe bs s).1.sb, .int .i64 (rdCe bs s).1.lo, .int .i64 (rdCe bs s).1.hi, .int .i64 (rdCe bs s).1.mx, .int .u8 (rdCe bs s).1.ik, .int .u64 (rdCe bs s).1.ib, .string (rdCe bs s).1.is, .bool (rdCe bs s).1.kp, .int .i64 (rdCe bs s).1.dr, .string (rdCe bs s).1.ad]) ∧ Cu g kb o c bs (rdCe bs s).2 w' ∧ w.grownBy w' (some g) :=
  cellCG g kb o c bs s (rdB bs s).2 (kceA bs s) (rdNs bs 1 (kceA bs s)) (rdNs bs 2 (kceA bs s)) (kceB bs s) (kceD bs s) (kceE bs s) (kceF bs s) (rdT bs (kceF bs s)).2 _ _ _ _ _ (rdV bs (kceB bs s)).1 _ (rdB bs (kceE bs s)).1 _ (u8_wrap _ (rdB_lt s h.b8)) (byteC g kb o c bs s) (boolC g kb o c bs _) (numberC g kb o c bs _) (numberC g kb o c bs _) (numberC g kb o c bs _) (valueC g kb o c bs _) (boolC g kb o c bs _) (byteC g kb o c bs _) (textC g kb o c bs _) w h
theorem flatC (s : RS) (w : World) (h : Cu g kb o c bs s w) : Calls Tryz.prog 31 #[.pointer (some ⟨g, 0, none⟩)] w fun e w' => (∃ x1 c1 x2 c2, e = .returned (.agg #[.string (rdFl bs s).1.nm, .int .i64 (rdFl bs s).1.wh, .int .i64 (rdFl bs s).1.ce, .int .i64 (rdFl bs s).1.ba, .int .i64 (rdFl bs s).1.rg, .int .i64 (rdFl bs s).1.sl, .slice x1 (rdFl bs s).1.os.length c1, .slice x2 (rdFl bs s).1.ls.length c2]) ∧ FlQ (Fresh w.heap.size w'.heap.size) w' (rdFl bs s).1 x1 x2) ∧ Cu g kb o c bs (rdFl bs s).2 w' ∧ w.grownBy w' (some g) := by
  have z1 := rdL_z (rdOp bs) bs (kflB bs s)
  have z2 := rdL_z (rdLp bs) bs (kflD bs s)
  have d : kflD bs s = rdKS (rdOp bs) (rdCz bs (kflB bs s)).toNat (rdC bs (kflB bs s)).2 := by unfold kflD; rw [z1]
  have q := flatCG g kb o c bs s (kflA bs s) (rdNs bs 1 (kflA bs s)) (rdNs bs 2 (kflA bs s)) (rdNs bs 3 (kflA bs s)) (rdNs bs 4 (kflA bs s)) (kflB bs s) _ _ _ _ _ _
    (textC g kb o c bs s) (numberC g kb o c bs _) (numberC g kb o c bs _) (numberC g kb o c bs _) (numberC g kb o c bs _) (numberC g kb o c bs _)
    (rdC bs (kflB bs s)).2 (rdC bs (kflD bs s)).2 (rdCz bs (kflB bs s)) (rdCz bs (kflD bs s)) (rdOp bs) (rdN bs) (rdLp bs) (fun s => rfl)
    ⟨(rdCz_le h.n4).1, (rdCz_le h.n4).2, (rdCz_le h.n4).1, (rdCz_le h.n4).2⟩
    (countC g kb o c bs _) (by rw [← d]; exact countC g kb o c bs _) (opC' g kb o c bs) (numberC g kb o c bs) w h
  refine q.mono ?_
  rintro e w' ⟨⟨y1, c1, y2, c2, he, q1, q2⟩, h1, g1⟩
  unfold rdFl
  dsimp only
  rw [z1, z2]
  exact ⟨⟨y1, c1, y2, c2, he, q1, q2⟩, h1, g1⟩
theorem jobC (s : RS) (w : World) (h : Cu g kb o c bs s w) : Calls Tryz.prog 32 #[.pointer (some ⟨g, 0, none⟩)] w fun e w' => (∃ x1 c1 x2 c2, e = .returned (.agg #[.string (rdJb bs s).1.nm, .int .i64 (rdJb bs s).1.iv, .int .i64 (rdJb bs s).1.sg, .int .i64 (rdJb bs s).1.pr, .slice x1 (rdJb bs s).1.cs.length c1, .slice x2 (rdJb bs s).1.bs.length c2, .int .i64 (rdJb bs s).1.bd]) ∧ JbQ (Fresh w.heap.size w'.heap.size) w' (rdJb bs s).1 x1 x2) ∧ Cu g kb o c bs (rdJb bs s).2 w' ∧ w.grownBy w' (some g) :=
  (jobCG g kb o c bs s (kjbA bs s) (rdNs bs 1 (kjbA bs s)) (rdNs bs 2 (kjbA bs s)) (kjbB bs s) (kjbD bs s) (kjbE bs s) (rdJb bs s).2 _ _ _ _ _ _ _ (textC g kb o c bs s) (numberC g kb o c bs _) (numberC g kb o c bs _) (numberC g kb o c bs _) (numbersC g kb o c bs _) (numbersC g kb o c bs _) (numberC g kb o c bs _) w h).mono
    fun e w' ⟨⟨y1, c1, y2, c2, he, q1, q2⟩, h1, g1⟩ => ⟨⟨y1, c1, y2, c2, he, q1, q2⟩, h1, g1⟩
theorem imageC (s : RS) (w : World) (h : Cu g kb o c bs s w) : Calls Tryz.prog 14 #[.pointer (some ⟨g, 0, none⟩)] w fun e w' => (∃ x1 c1 x2 c2 x3 c3, e = .returned (.agg #[.string (rdIm bs s).1.nm, .slice x1 (rdIm bs s).1.cs.length c1, .slice x2 (rdIm bs s).1.fs.length c2, .slice x3 (rdIm bs s).1.js.length c3]) ∧ ImQ (Fresh w.heap.size w'.heap.size) w' (rdIm bs s).1 x1 x2 x3) ∧ Cu g kb o c bs (rdEnd bs (rdIm bs s).2) w' ∧ w.grownBy w' (some g) := by
  have z1 := rdL_z (rdCe bs) bs (kimA bs s)
  have z2 := rdL_z (rdFl bs) bs (kimB bs s)
  have z3 := rdL_z (rdJb bs) bs (kimD bs s)
  have d2 : kimB bs s = rdKS (rdCe bs) (rdCz bs (kimA bs s)).toNat (rdC bs (kimA bs s)).2 := by unfold kimB; rw [z1]
  have d3 : kimD bs s = rdKS (rdFl bs) (rdCz bs (kimB bs s)).toNat (rdC bs (kimB bs s)).2 := by unfold kimD; rw [z2]
  have q := imageCG g kb o c bs s (kimA bs s) _ (textC g kb o c bs s) (rdC bs (kimA bs s)).2 (rdC bs (kimB bs s)).2 (rdC bs (kimD bs s)).2 (rdCz bs (kimA bs s)) (rdCz bs (kimB bs s)) (rdCz bs (kimD bs s)) (rdCe bs) (rdFl bs) (rdJb bs)
    ⟨rdCz_le h.n4, rdCz_le h.n4, rdCz_le h.n4⟩
    (countC g kb o c bs _) (by rw [← d2]; exact countC g kb o c bs _) (by rw [← d3]; exact countC g kb o c bs _) (cellC g kb o c bs) (flatC g kb o c bs) (jobC g kb o c bs) w h
  refine q.mono ?_
  rintro e w' ⟨⟨y1, c1, y2, c2, y3, c3, he, q1, q2, q3⟩, h1, g1⟩
  unfold rdIm
  dsimp only
  rw [z1, z2, z3]
  exact ⟨⟨y1, c1, y2, c2, y3, c3, he, q1, q2, q3⟩, h1, g1⟩
end
end Go.Proofs.YtahgnmbkobiclaaGreat
namespace Go.Proofs.YtahgnmbkobiclaaGreat
set_option linter.unusedVariables false
open Go.RowKit
theorem ofR_of (cd : Int) (f : FlR) (x1 x2 : Option Addr) (p1 p2 : Nat) (cs : Int) (w : World) (hc : 1 ≤ cd ∧ cd ≤ 23) (hr : 0 ≤ f.rg ∧ f.rg ≤ 8) (hs : 0 ≤ f.sl ∧ f.sl ≤ 1024) (hn : f.os.length ≤ 1048576) (hq : 0 ≤ cs ∧ cs ≤ 1048576) : RlOk cd f x1 x2 p1 p2 cs w := by
  rcases (show (cd = 1 ∨ cd = 2 ∨ cd = 3 ∨ cd = 4 ∨ cd = 5 ∨ cd = 6 ∨ cd = 7 ∨ cd = 8) ∨ (cd = 9 ∨ cd = 10 ∨ cd = 11 ∨ cd = 12 ∨ cd = 13 ∨ cd = 14 ∨ cd = 15) ∨ (cd = 16 ∨ cd = 18 ∨ cd = 19 ∨ cd = 20 ∨ cd = 21) ∨ (cd = 17 ∨ cd = 22 ∨ cd = 23) by omega) with q | q | q | q
  · exact ofR_1 cd f x1 x2 p1 p2 cs w q hr hs hn hq
  · exact ofR_2 cd f x1 x2 p1 p2 cs w q hr hs hn hq
  · exact ofR_3 cd f x1 x2 p1 p2 cs w q hr hs hn hq
  · exact ofR_4 cd f x1 x2 p1 p2 cs w q hr hs hn hq
/-- Are the bounds of such a sort? -/
def bnB (lo hi k : Int) : Bool := if k = 1 then decide (lo ≤ hi) && decide (hi - lo < 256) else if k = 2 then decide (lo ≤ hi) else if k = 3 then decide (lo = 0) && inB 0 254 hi else decide (lo = 0) && decide (hi = 0)
theorem rc_bn (o : OpR) : rcB o = bnB o.lo o.hi (bdK o.cd) := by
  unfold rcB bnB bdK
  by_cases a : o.cd = 5 ∨ o.cd = 6 ∨ o.cd = 8
  · simp only [if_pos a, if_true]
  simp only [if_neg a]
  by_cases b : o.cd = 14
  · simp [b]
  simp only [if_neg b]
  by_cases c : o.cd = 15
  · simp [c]
  simp [c]
theorem bdK_in (cd : Int) : bdK cd = 0 ∨ bdK cd = 1 ∨ bdK cd = 2 ∨ bdK cd = 3 := by
  unfold bdK
  split
  · simp
  split
  · simp
  split <;> simp
set_option maxHeartbeats 4000000 in
theorem boundedR_of (o : OpR) (k : Int) (hk : k = 0 ∨ k = 1 ∨ k = 2 ∨ k = 3) (ho : OpOk o) (w : World) : Calls Tryz.prog 73 #[OpV o, .int .i64 k] w fun e w' => e = .returned (.bool (bnB o.lo o.hi k)) ∧ Below w.heap.size w w' := by
  have g1 := wf_i64 ho.2.2.2.2.2.1
  have g2 := wf_i64 ho.2.2.2.2.2.2.1
  clear ho
  obtain ⟨cd, oa, ob, oc, od, lo, hi, vk, vb, vs⟩ := o
  simp only at g1 g2
  have N1 : Hid (lo ≤ hi → ∀ W, Calls Tryz.prog 113 #[.int .i64 lo, .int .i64 hi] W fun e w' => e = .returned (.bool (decide (hi - lo < 256))) ∧ w' = W) := fun h W => nearR_of lo hi h g1 g2 W
  have N2 : Hid (∀ W, Calls Tryz.prog 71 #[.int .i64 hi, .int .i64 254] W fun e w' => e = .returned (.bool (inB 0 254 hi)) ∧ w' = W) := fun W => inR_of hi 254 W
  clear g1 g2
  unfold bnB
  rcases hk with rfl | rfl | rfl | rfl
  · simp only [show ¬ (0 : Int) = 1 by omega, show ¬ (0 : Int) = 2 by omega, show ¬ (0 : Int) = 3 by omega, if_false]
    by_cases a : lo = 0
    · have a1 : (lo == 0) = true := by simp [a]
      rw [decide_eq_true a]
      clear a
      by_cases b : hi = 0
      · have b1 : (hi == 0) = true := by simp [b]
        rw [decide_eq_true b]
        clear b
        go_enter Tryz.func73, Tryz.ntmps73
        go_wp2
        go_ret
        exact ⟨rfl, by go_grown⟩
      · have b1 : (hi == 0) = false := by simp [b]
        rw [decide_eq_false b]
        clear b
        go_enter Tryz.func73, Tryz.ntmps73
        go_wp2
        go_ret
        exact ⟨rfl, by go_grown⟩
    · have a1 : (lo == 0) = false := by simp [a]
      rw [decide_eq_false a]
      clear a
      go_enter Tryz.func73, Tryz.ntmps73
      go_wp2
      go_ret
      exact ⟨rfl, by go_grown⟩
  · simp only [if_true]
    by_cases a : lo ≤ hi
    · have N3 : Hid _ := N1.out a
      rw [decide_eq_true a]
      generalize decide (hi - lo < 256) = r at *
      go_enter Tryz.func73, Tryz.ntmps73
      go_wp2_with fail
      refine (N3.out _).mono ?_
      rintro e wN ⟨rfl, hN⟩
      rw [hN]
      go_wp2
      go_ret
      exact ⟨rfl, by go_grown⟩
    · rw [decide_eq_false a]
      go_enter Tryz.func73, Tryz.ntmps73
      go_wp2
      go_ret
      exact ⟨rfl, by go_grown⟩
  · simp only [show ¬ (2 : Int) = 1 by omega, if_false, if_true]
    by_cases a : lo ≤ hi
    · rw [decide_eq_true a]
      go_enter Tryz.func73, Tryz.ntmps73
      go_wp2
      go_ret
      exact ⟨by simp, by go_grown⟩
    · rw [decide_eq_false a]
      go_enter Tryz.func73, Tryz.ntmps73
      go_wp2
      go_ret
      exact ⟨by simp, by go_grown⟩
  · simp only [show ¬ (3 : Int) = 1 by omega, show ¬ (3 : Int) = 2 by omega, if_false, if_true]
    by_cases a : lo = 0
    · have a1 : (lo == 0) = true := by simp [a]
      rw [decide_eq_true a]
      clear a
      generalize inB 0 254 hi = r at *
      go_enter Tryz.func73, Tryz.ntmps73
      go_wp2_with fail
      refine (N2.out _).mono ?_
      rintro e wN ⟨rfl, hN⟩
      rw [hN]
      go_wp2
      go_ret
      exact ⟨rfl, by go_grown⟩
    · have a1 : (lo == 0) = false := by simp [a]
      rw [decide_eq_false a]
      clear a
      go_enter Tryz.func73, Tryz.ntmps73
      go_wp2
      go_ret
      exact ⟨rfl, by go_grown⟩
end Go.Proofs.YtahgnmbkobiclaaGreat
namespace Go.Proofs.YtahgnmbkobiclaaGreat
set_option linter.unusedVariables false
open Go.RowKit
theorem cellR_of (l : List CeR) (x : Option Addr) (p i : Nat) (w : World) {S : Nat → Prop} (hS : ∀ b, S b → b < w.heap.size) (ha : RwF 11 (Is ceC) S w x l) (ho : ∀ c ∈ l, CeOk c) (hi : i < l.length) :
    Calls Tryz.prog 35 #[.slice x l.length p, .int .i64 i] w fun e w' => e = .returned (.bool (ceAt l i)) ∧ Below w.heap.size w w' := by
  by_cases h : ∀ c, l[i]? = some c → c.kd = 20
  · exact cellR_a l x p i w hS ha ho hi h
  · exact cellR_b l x p i w hS ha ho hi (fun c hc q => h (fun d hd => by rw [hc] at hd; cases hd; exact q))
end Go.Proofs.YtahgnmbkobiclaaGreat
namespace Go.Proofs.YtahgnmbkobiclaaGreat
set_option linter.unusedVariables false
open Go.RowKit
set_option maxRecDepth 20000 in
set_option maxHeartbeats 4000000 in
theorem SumR_of (x : Option Addr) (n c : Nat) (l : List Nat) (w : World) (hn : n ≤ 17592186044416) (hl : l.length = n) (hb : ∀ b ∈ l, b < 256) (hc : ∀ (k : Nat) b, l[k]? = some b → ∃ a, x = some a ∧ w.cell? (a.add k) = some (.int .u8 b)) :
    Calls Tryz.prog 27 #[.slice x n c] w fun e w' => e = .returned (.int .u32 (uW (crcF l))) ∧ w' = w := by
  have HC : Hid (∀ (k : Nat) b, l[k]? = some b → ∃ a, x = some a ∧ w.cell? (a.add k) = some (.int .u8 b)) := hc
  have HN : Hid (n ≤ 17592186044416) := hn
  have HL : Hid (l.length = n) := hl
  have HB : Hid (∀ b ∈ l, b < 256) := hb
  clear hc hn hl hb
  go_enter Tryz.func27, Tryz.ntmps27
  go_upto_region 2 with fail
  go_upto_region 3 with fail
  go_loopw [3, 4] (fun s i wr => ∃ k : Nat, k ≤ n ∧ s = .int .u32 (uW (crL 4294967295#32 (l.take k))) ∧ i = .int .i64 k ∧ wr = w) (fun _ i _ => n - (intOf i).toNat)
  case atStart => exact ⟨0, Nat.zero_le _, by rw [List.take_zero]; show _ = Value.int .u32 (uW 4294967295#32); rw [ones_u3], rfl, rfl⟩
  case round =>
    obtain ⟨k, hk, rfl, rfl, hw⟩ := hrel
    rw [hw]
    clear hw wr
    by_cases hlt : k < n
    · obtain ⟨b, hbk⟩ : ∃ b, l[k]? = some b := ⟨_, List.getElem?_eq_getElem (by rw [HL.out]; exact hlt)⟩
      have hb := HB.out b (List.mem_of_getElem? hbk)
      obtain ⟨a, rfl, f0⟩ := HC.out k b hbk
      have kl : (k : Int) < n := by omega
      have LT : Hid (k < n) := hlt
      have ek : wrap64 ((k : Int) + 1) = (k : Int) + 1 := by have := HN.out; unfold wrap64; omega
      have NX : Hid (crL 4294967295#32 (l.take (k + 1)) = crN 8 (crL 4294967295#32 (l.take k) ^^^ BitVec.ofNat 32 b)) := by
        show _ = _
        rw [List.take_add_one, hbk]
        exact crL_snoc _ _ _
      generalize crL 4294967295#32 (l.take k) = v at *
      have XV : Hid (bits .xor .u32 (uW v) (b : Int) = uW (v ^^^ BitVec.ofNat 32 b)) := by show _ = _; rw [← u3_nat b hb, xor_u3]
      have b0 : (b : Int) < 4294967296 := by omega
      clear hlt hk hbk hb
      go_upto_region 6 with fail
      go_upto_region 7 with fail
      clear f0
      go_loopw [3, 5] (fun s j wr => ∃ q : Nat, q ≤ 8 ∧ s = .int .u32 (uW (crN q (v ^^^ BitVec.ofNat 32 b))) ∧ j = .int .i64 q ∧ wr = w) (fun _ j _ => 8 - (intOf j).toNat)
      case atStart => exact ⟨0, Nat.zero_le _, by rw [show crN 0 (v ^^^ BitVec.ofNat 32 b) = v ^^^ BitVec.ofNat 32 b from rfl, ← XV.out]; first | done | rfl, rfl, rfl⟩
      case round =>
        obtain ⟨q, hq, rfl, rfl, hw⟩ := hrel
        rw [hw]
        clear hw wr
        by_cases qlt : q < 8
        · have ql : (q : Int) < 8 := by omega
          have QL : Hid (q < 8) := qlt
          have eq1 : wrap64 ((q : Int) + 1) = (q : Int) + 1 := by unfold wrap64; omega
          clear qlt hq
          have NY : Hid (crN (q + 1) (v ^^^ BitVec.ofNat 32 b) = crS (crN q (v ^^^ BitVec.ofNat 32 b))) := crN_snoc _ _
          generalize crN q (v ^^^ BitVec.ofNat 32 b) = z at *
          have hr := uW_range z
          cases hb : z.getLsbD 0
          · have m0 : uW z % 2 = 0 := by
              have := mt (odd_u3 z).1 (by rw [hb]; simp)
              omega
            have EN : Hid (crN (q + 1) (v ^^^ BitVec.ofNat 32 b) = z >>> 1) := NY.out.trans (crS_low hb)
            clear NY hb
            go_wp2
            refine ⟨⟨q + 1, Nat.succ_le_of_lt QL.out, ?_, rfl, trivial⟩, msr QL.out⟩
            rw [EN.out, half_2]
          · have m1 : uW z % 2 = 1 := (odd_u3 z).2 hb
            have EN : Hid (crN (q + 1) (v ^^^ BitVec.ofNat 32 b) = (z >>> 1) ^^^ 3988292384#32) := NY.out.trans (crS_odd hb)
            clear NY hb
            go_wp2
            refine ⟨⟨q + 1, Nat.succ_le_of_lt QL.out, ?_, rfl, trivial⟩, msr QL.out⟩
            rw [EN.out, half_2, ← xor_u3, poly_u3]
        · have ql : ¬ (q : Int) < 8 := by omega
          have e8 : q = 8 := by omega
          subst e8
          clear qlt hq
          go_wp2
          try rw [ek]
          exact ⟨⟨k + 1, Nat.succ_le_of_lt LT.out, by rw [NX.out], rfl, trivial⟩, msr LT.out⟩
    · have kl : ¬ (k : Int) < n := by omega
      have ekn : k = n := by omega
      subst ekn
      rw [show l.take k = l by rw [← HL.out, List.take_length]]
      have EX : Hid (bits .xor .u32 (uW (crL 4294967295#32 l)) 4294967295 = uW (crcF l)) := by show _ = _; rw [← ones_u3, xor_u3]; rfl
      clear hlt hk
      go_wp2
      go_ret
      exact ⟨by rw [EX.out]; rfl, rfl⟩
end Go.Proofs.YtahgnmbkobiclaaGreat
namespace Go.Proofs.YtahgnmbkobiclaaGreat
set_option linter.unusedVariables false
open Go.RowKit
theorem cr4_bv (c : BitVec 32) : bvL (cr4N c) = [.int .u8 (uW c % (256 : Int)), .int .u8 (uW c / (256 : Int) % (256 : Int)), .int .u8 (uW c / (65536 : Int) % (256 : Int)), .int .u8 (uW c / (16777216 : Int) % (256 : Int))] := by
  unfold bvL cr4N
  simp only [List.map_cons, List.map_nil, by_nat]
theorem four_new (W : World) (a b c d : Value) (t : TypeId) : ∀ j u, ([a, b, c, d] : List Value)[j]? = some u → (W.alloc (.cells #[a, b, c, d] t)).cell? ((⟨W.heap.size, 0, none⟩ : Addr).add j) = some u := by
  intro j u hj
  rw [Addr.add_mid, Nat.zero_add]
  have e := heap_alloc_last W (.cells #[a, b, c, d] t)
  rw [World.cell?, e]
  simpa using hj
theorem Sb.len {B : Nat} {l : List Nat} {x : Option Addr} {n c : Nat} {V : World} (h : Sb B l (.slice x n c) V) : n = l.length := by
  rcases h.2 with ⟨hv, h0⟩ | ⟨g, cap, cur, hv, _⟩
  · cases hv; exact h0.symm
  · cases hv; rfl
theorem Sb.cell {B : Nat} {l : List Nat} {x : Option Addr} {n c : Nat} {V : World} (h : Sb B l (.slice x n c) V) (j b : Nat) (hj : l[j]? = some b) : ∃ a, x = some a ∧ a.block < V.heap.size ∧ V.cell? (a.add j) = some (.int .u8 (b : Int)) := by
  have hl := (List.getElem?_eq_some_iff.1 hj).1
  rcases h.2 with ⟨hv, h0⟩ | ⟨g, cap, cur, hv, hx⟩
  · omega
  · cases hv
    have q := h
    unfold Sb at q
    have := q.cells (g := g) rfl j (.int .u8 (b : Int)) (by unfold bvL; rw [List.getElem?_map, hj]; rfl)
    exact ⟨_, rfl, blk_in hx.2.1, this⟩
set_option maxRecDepth 20000 in
set_option maxHeartbeats 4000000 in
theorem equalB (x y : Option Addr) (n c d : Nat) (l : List Nat) (w : World) (hl : n = l.length) (hn : l.length ≤ 4611686018427387904) (hx : ∀ (j : Nat) b, l[j]? = some b → ∃ a, x = some a ∧ a.block < w.heap.size ∧ w.cell? (a.add j) = some (.int .u8 (b : Int))) (hy : ∀ (j : Nat) b, l[j]? = some b → ∃ a, y = some a ∧ a.block < w.heap.size ∧ w.cell? (a.add j) = some (.int .u8 (b : Int))) :
    Calls Tryz.prog 8 #[.slice x n c, .slice y n d] w fun e w' => e = .returned (.bool true) ∧ Below w.heap.size w w' := by
  have HX : Hid (∀ (j : Nat) b, l[j]? = some b → ∃ a, x = some a ∧ a.block < w.heap.size ∧ w.cell? (a.add j) = some (.int .u8 (b : Int))) := hx
  have HY : Hid (∀ (j : Nat) b, l[j]? = some b → ∃ a, y = some a ∧ a.block < w.heap.size ∧ w.cell? (a.add j) = some (.int .u8 (b : Int))) := hy
  have HL : Hid (n = l.length) := hl
  have HN : Hid (l.length ≤ 4611686018427387904) := hn
  clear hx hy hl hn
  go_enter Tryz.func8, Tryz.ntmps8
  go_upto_region 3 with fail
  go_upto_region 4 with fail
  go_loopw [13] (fun i wr => ∃ k : Nat, k ≤ n ∧ i = .int .i64 k ∧ Below w.heap.size w wr) (fun i _ => n - (intOf i).toNat)
  case atStart => exact ⟨0, Nat.zero_le _, rfl, Below.refl _ _⟩
  case round =>
    obtain ⟨k, hk, rfl, hbw⟩ := hrel
    have HW : Hid (Below w.heap.size w wr) := hbw
    clear hbw
    by_cases hlt : k < n
    · obtain ⟨s, hs⟩ : ∃ s, l[k]? = some s := ⟨_, List.getElem?_eq_getElem (by have := HL.out; omega)⟩
      obtain ⟨a, rfl, za, e0⟩ := HX.out k s hs
      obtain ⟨b, rfl, zb, e1⟩ := HY.out k s hs
      have LT : Hid (k < n) := hlt
      have kl : (k : Int) < n := by omega
      have ew : wrap64 ((k : Int) + 1) = (k : Int) + 1 := by have := HN.out; have := HL.out; unfold wrap64; omega
      go_upto_region 6 with fail
      have cy : ∀ x : Sub wr, x.w.cell? (a.add k) = some (.int .u8 (s : Int)) := fun x => ((HW.out.trans (x.h.mono HW.out.size)).cell (by rw [add_block]; exact za)).trans e0
      have cz : ∀ x : Sub wr, x.w.cell? (b.add k) = some (.int .u8 (s : Int)) := fun x => ((HW.out.trans (x.h.mono HW.out.size)).cell (by rw [add_block]; exact zb)).trans e1
      clear hlt hk hs za zb e0 e1
      refine wp_region_sub2 (by kernel_rfl) (by kernel_rfl) ?_
      intro cx
      clear cx
      repeat (first | go_big_quiet_skip | (go_big_quiet_want; go_big_quiet_op; first | go_big_quiet_on | (refine ⟨_, fun _ => rfl, ?_⟩; go_big_quiet_on)))
      refine wpQuiet_nil ?_
      rintro _ ⟨y, rfl⟩
      have Y : Hid (Below w.heap.size w y.w) := HW.out.trans (y.h.mono HW.out.size)
      clear cy cz
      go_wp2
      try rw [ew]
      exact ⟨⟨k + 1, Nat.succ_le_of_lt LT.out, rfl, Y.out⟩, msr LT.out⟩
    · have kl : ¬ (k : Int) < n := by omega
      clear hlt hk
      go_wp2
      go_ret
      exact ⟨rfl, HW.out⟩
set_option maxRecDepth 20000 in
set_option maxHeartbeats 4000000 in
theorem SummedB (B : Nat) (a : Addr) (c : Nat) (l : List Nat) (w : World) (hx : ∀ (j : Nat) b, l[j]? = some b → w.cell? (a.add j) = some (.int .u8 (b : Int))) (hB : B ≤ w.heap.size) (hl : l.length ≤ 17592186044416) (hlt : ∀ b ∈ l, b < 256) :
    Calls Tryz.prog 13 #[.slice (some a) l.length c] w fun e w' => ∃ v', e = .returned v' ∧ Sb B (l ++ cr4N (crcF l)) v' w' ∧ Bq B w w' := by
  obtain ⟨i0, hi, hz0, hz1, hz2⟩ := u8_info
  have HB : Hid (B ≤ w.heap.size) := hB
  have HL : Hid (l.length ≤ 17592186044416) := hl
  have C0 : Hid (Calls Tryz.prog 27 #[.slice (some a) l.length c] w fun e w' => e = .returned (.int .u32 (uW (crcF l))) ∧ w' = w) := SumR_of (some a) l.length c l w hl rfl hlt (fun j b hj => ⟨a, rfl, hx j b hj⟩)
  have SRC : Hid (∀ (j : Nat) u, (bvL l)[j]? = some u → w.cell? (a.add j) = some u) := fun j u hu => by
    unfold bvL at hu
    rw [List.getElem?_map] at hu
    obtain ⟨b, hb, rfl⟩ := Option.map_eq_some_iff.1 hu
    exact hx j b hb
  have ONE : Hid (∀ u ∈ bvL l, u.oneCell' = true) := fun u hu => by
    unfold bvL at hu
    obtain ⟨b, _, rfl⟩ := List.mem_map.1 hu
    rfl
  have hr := uW_range (crcF l)
  have CR : Hid (bvL (cr4N (crcF l)) = _) := cr4_bv (crcF l)
  have c4 : Hid ((cr4N (crcF l)).length = 4) := rfl
  generalize crcF l = cc at *
  generalize cr4N cc = l4 at *
  generalize uW cc = q at *
  have QM : Hid (q / (16777216 : Int) % (256 : Int) = q / (16777216 : Int)) := by show _ = _; omega
  clear hx hB hl hlt
  go_enter Tryz.func13, Tryz.ntmps13
  go_wp2_with (go_at_call 27; refine (C0.out).mono ?_)
  first | (rintro e w1 ⟨he, hw⟩; have he' := he) | (rintro e w1 he hw)
  subst he
  rw [hw]
  clear hw w1
  go_wp2_with (at_builtin; refine wpList_append_own _ rfl _ _ 22 rfl B 5 i0 _ 1 1 Tryz.underlying22 hi hz0 hz1 hz2 rfl (by decide) _ 0 [] rfl (World.ownsRow_nil _ _ _ _) a l.length c (bvL l) rfl (by rw [bvL_len]; omega) SRC.out ONE.out (by have := HL.out; unfold maxLen; omega) (by have := HL.out; omega) HB.out ?_)
  intro v1 w1 k1 k2 k3
  have S1 : Hid (Sb B l v1 w1) := by
    first
      | exact k1
      | (have q := k1; rw [Nat.zero_add, List.nil_append] at q; exact q)
  have Q1 : Hid (Bq B w w1) := (Bq.refl B w).grown (v := .slice none 0 0) (World.ownsRow_nil _ _ _ _) k2 HB.out
  obtain ⟨tx, tn, tc, rfl⟩ := S1.out.form
  have GA : Hid (∀ X : Obj, Below w1.heap.size w1 (w1.alloc X)) := fun X => (Below.refl _ _).alloc (Nat.le_refl _) _
  have BW : Hid (B ≤ w1.heap.size) := Nat.le_trans HB.out Q1.out.b.size
  clear k1 k2 k3
  go_wp2_with (at_builtin; refine wpList_append_own _ rfl _ _ 22 rfl B 5 i0 _ 1 1 Tryz.underlying22 hi hz0 hz1 hz2 rfl (by decide) _ l.length (bvL l) rfl (S1.out.below (GA.out _)) ⟨w1.heap.size, 0, none⟩ 4 4 [.int .u8 (q % 256), .int .u8 (q / 256 % 256), .int .u8 (q / 65536 % 256), .int .u8 (q / 16777216)] rfl rfl (four_new _ _ _ _ _ _) (by intro u hu; simp at hu; rcases hu with rfl | rfl | rfl | rfl <;> rfl) (by have := HL.out; unfold maxLen; omega) (by have := HL.out; omega) (by have := BW.out; simp; omega) ?_)
  intro v2 w2 k1 k2 k3
  have S2 : Hid (Sb B (l ++ l4) v2 w2) := Sb.app k1 (by rw [c4.out]) (by rw [CR.out, QM.out])
  have Q2 : Hid (Bq B w w2) := (Q1.out.trans (Bq.up (GA.out _) BW.out)).grown (S1.out.below (GA.out _)) k2 (by have := BW.out; simp; omega)
  obtain ⟨ux, un, uc, rfl⟩ := S2.out.form
  clear k1 k2 k3
  go_wp2
  go_ret
  exact ⟨_, rfl, S2.out, Q2.out⟩
end Go.Proofs.YtahgnmbkobiclaaGreat
