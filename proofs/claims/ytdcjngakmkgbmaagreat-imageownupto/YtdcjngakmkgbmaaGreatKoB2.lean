/- image: lists written exactly; no statement of the seat is proved here. -/
import Derived.Test.YtdcjngakmkgbmaaGreatKoB1
import Derived.Test.YtdcjngakmkgbmaaGreatKoA1
import Derived.Test.YtdcjngakmkgbmaaGreatCkHK
import Derived.Test.YtdcjngakmkgbmaaGreatKoA3
namespace Go.Proofs.YtdcjngakmkgbmaaGreat
set_option linter.unusedVariables false
open Go.RowKit
/-- Bytes as values. -/
def bvL (l : List Nat) : List Value := l.map fun b : Nat => Value.int .u8 (b : Int)
theorem bvL_app (a b : List Nat) : bvL (a ++ b) = bvL a ++ bvL b := by simp [bvL]
theorem bvL_len (a : List Nat) : (bvL a).length = a.length := by simp [bvL]
/-- The k lowest bytes of a number. -/
def nbK (n : Int) (k : Nat) : List Nat := (List.range k).map fun i => (n / 2 ^ (8 * i) % (256 : Int)).toNat
def nbN (n : Int) : List Nat := nbK n 8
theorem nbK_succ (n : Int) (k : Nat) : nbK n (k + 1) = nbK n k ++ [(n / 2 ^ (8 * k) % (256 : Int)).toNat] := by simp [nbK, List.range_succ]
theorem nbK_len (n : Int) (k : Nat) : (nbK n k).length = k := by simp [nbK]
theorem nbN_len (n : Int) : (nbN n).length = 8 := nbK_len n 8
theorem by_nat (x : Int) : ((x % (256 : Int)).toNat : Int) = x % 256 := Int.toNat_of_nonneg (Int.emod_nonneg _ (by decide))
/-- A text's bytes. -/
def sbN (s : ByteArray) : List Nat := s.data.toList.map (·.toNat)
theorem sbN_len (s : ByteArray) : (sbN s).length = s.size := by simp [sbN]
theorem sbN_str (s : ByteArray) : bvL (sbN s) = Lib.strCells s := by simp [bvL, sbN, Lib.strCells]
def tbN (s : ByteArray) : List Nat := nbN s.size ++ sbN s
theorem tbN_len (s : ByteArray) : (tbN s).length = 8 + s.size := by unfold tbN; rw [List.length_append, nbN_len, sbN_len]
def bbN (b : Bool) : Nat := if b then 1 else 0
def vbN (k b : Int) (s : ByteArray) : List Nat := [(k % (256 : Int)).toNat] ++ nbN (wrap64 b) ++ tbN s
theorem vbN_len (k b : Int) (s : ByteArray) : (vbN k b s).length = 17 + s.size := by unfold vbN; rw [List.length_append, List.length_append, nbN_len, tbN_len]; simp; omega
/-- A writer with so many bytes. -/
def Wb (B g : Nat) (l : List Nat) (V : World) : Prop := Wq B g (bvL l) V
set_option maxRecDepth 20000 in
set_option maxHeartbeats 4000000 in
theorem rawX (B g : Nat) (l : List Nat) (b : Nat) (v : Int) (hv : v = b) (w : World) (h : Wb B g l w) (hl : l.length ≤ 70368744177664) :
    Calls Tryz.prog 58 #[.pointer (some ⟨g, 0, none⟩), .int .u8 v] w fun e w' => e = .returned (.tuple #[]) ∧ Wb B g (l ++ [b]) w' ∧ Bq B w w' := by
  subst hv
  refine (raw_of B g (bvL l) b w h (by rw [bvL_len]; exact hl)).mono ?_
  rintro e w' ⟨he, h1, h2⟩
  exact ⟨he, by unfold Wb; rw [bvL_app]; exact h1, h2⟩
set_option maxRecDepth 20000 in
set_option maxHeartbeats 4000000 in
theorem flagX (B g : Nat) (l : List Nat) (b : Bool) (w : World) (h : Wb B g l w) (hl : l.length ≤ 70368744177664) :
    Calls Tryz.prog 59 #[.pointer (some ⟨g, 0, none⟩), .bool b] w fun e w' => e = .returned (.tuple #[]) ∧ Wb B g (l ++ [bbN b]) w' ∧ Bq B w w' := by
  have R0 : Hid (∀ W, Wb B g l W → Calls Tryz.prog 58 #[.pointer (some ⟨g, 0, none⟩), .int .u8 0] W fun e w' => e = .returned (.tuple #[]) ∧ Wb B g (l ++ [0]) w' ∧ Bq B W w') := fun W hW => rawX B g l 0 0 rfl W hW hl
  have R1 : Hid (∀ W, Wb B g l W → Calls Tryz.prog 58 #[.pointer (some ⟨g, 0, none⟩), .int .u8 1] W fun e w' => e = .returned (.tuple #[]) ∧ Wb B g (l ++ [1]) w' ∧ Bq B W w') := fun W hW => rawX B g l 1 1 rfl W hW hl
  have H : Hid (Wb B g l w) := h
  clear h hl
  cases b
  · go_enter Tryz.func59, Tryz.ntmps59
    go_wp2_with (go_at_call 58; refine (R0.out _ H.out).mono ?_)
    first | (rintro e w1 ⟨he, h1, hb1⟩; have he' := he) | (rintro e w1 he h1 hb1)
    subst he
    have H1 : Hid (Wb B g (l ++ [0]) w1) := h1
    have B1 : Hid (Bq B w w1) := hb1
    clear h1 hb1
    go_wp2
    go_end0
    exact ⟨rfl, H1.out, B1.out⟩
  · go_enter Tryz.func59, Tryz.ntmps59
    go_wp2_with (go_at_call 58; refine (R1.out _ H.out).mono ?_)
    first | (rintro e w1 ⟨he, h1, hb1⟩; have he' := he) | (rintro e w1 he h1 hb1)
    subst he
    have H1 : Hid (Wb B g (l ++ [1]) w1) := h1
    have B1 : Hid (Bq B w w1) := hb1
    clear h1 hb1
    go_wp2
    go_end0
    exact ⟨rfl, H1.out, B1.out⟩
set_option maxRecDepth 20000 in
set_option maxHeartbeats 4000000 in
theorem numberX (B g : Nat) (l : List Nat) (v : Int) (w : World) (h : Wb B g l w) (hl : l.length ≤ 35184372088832) :
    Calls Tryz.prog 57 #[.pointer (some ⟨g, 0, none⟩), .int .i64 v] w fun e w' => e = .returned (.tuple #[]) ∧ Wb B g (l ++ nbN v) w' ∧ Bq B w w' := by
  have H : Hid (Wb B g l w) := h
  have R0 : Hid (∀ (k : Nat) W, k < 8 → Wb B g (l ++ nbK v k) W → Calls Tryz.prog 58 #[.pointer (some ⟨g, 0, none⟩), .int .u8 (v / 2 ^ (8 * k) % 256)] W fun e w' => e = .returned (.tuple #[]) ∧ Wb B g (l ++ nbK v (k + 1)) w' ∧ Bq B W w') := fun k W hk hW => by
    rw [nbK_succ, ← List.append_assoc]
    exact rawX B g _ _ _ (by_nat _).symm W hW (by rw [List.length_append, nbK_len]; omega)
  clear h hl
  go_enter Tryz.func57, Tryz.ntmps57
  go_upto_region 1 with fail
  go_loopw [5] (fun i wr => ∃ k : Nat, k ≤ 8 ∧ i = .int .i64 k ∧ Wb B g (l ++ nbK v k) wr ∧ Bq B w wr) (fun i _ => 8 - (intOf i).toNat)
  case atStart => exact ⟨0, Nat.zero_le _, rfl, by rw [show nbK v 0 = [] from rfl, List.append_nil]; exact H.out, Bq.refl _ _⟩
  case round =>
    obtain ⟨k, hk, rfl, hw, hb⟩ := hrel
    have HW : Hid (Wb B g (l ++ nbK v k) wr) := hw
    have HB : Hid (Bq B w wr) := hb
    clear hw hb
    by_cases hlt : k < 8
    · have kl : (k : Int) < 8 := by omega
      have LT : Hid (k < 8) := hlt
      have ek : wrap64 ((k : Int) + 1) = (k : Int) + 1 := by unfold wrap64; omega
      have e8 : wrap64 (8 * (k : Int)) = 8 * (k : Int) := by unfold wrap64; omega
      have p8 : ¬ (8 * (k : Int)) < 0 := by omega
      have q8 : (0 : Int) ≤ 8 * (k : Int) := by omega
      clear hlt
      go_wp2_with (go_at_call 58; refine (R0.out k _ LT.out HW.out).mono ?_)
      first | (rintro e w1 ⟨he, h1, hb1⟩; have he' := he) | (rintro e w1 he h1 hb1)
      subst he
      have H1 : Hid (Wb B g (l ++ nbK v (k + 1)) w1) := h1
      have B1 : Hid (Bq B w w1) := HB.out.trans hb1
      clear h1 hb1
      go_wp2
      try rw [ek]
      exact ⟨⟨k + 1, Nat.succ_le_of_lt LT.out, rfl, H1.out, B1.out⟩, msr LT.out⟩
    · have kl : ¬ (k : Int) < 8 := by omega
      have ek : k = 8 := by omega
      subst ek
      clear hlt hk
      go_wp2
      go_end0
      exact ⟨rfl, HW.out, HB.out⟩
end Go.Proofs.YtdcjngakmkgbmaaGreat
namespace Go.Proofs.YtdcjngakmkgbmaaGreat
set_option linter.unusedVariables false
open Go.RowKit
/-- A slice of bytes that is one's own. -/
def Sb (B : Nat) (l : List Nat) (v : Value) (V : World) : Prop := V.ownsRow B 5 1 v l.length (bvL l)
theorem Sb.form {B : Nat} {l : List Nat} {v : Value} {V : World} (h : Sb B l v V) : ∃ x n c, v = .slice x n c := by
  rcases h.2 with ⟨hv, _⟩ | ⟨_, cap, cur, hv, _⟩
  · exact ⟨_, _, _, hv⟩
  · exact ⟨_, _, _, hv⟩
theorem Sb.below {B : Nat} {l : List Nat} {v : Value} {V V' : World} (h : Sb B l v V) (hb : Below V.heap.size V V') : Sb B l v V' :=
  World.ownsRow.kept (row := none) h ⟨hb.os, hb.tape, hb.output, hb.size, fun k hk _ => hb.block k hk⟩ (by rcases h : v.ownBlock with _ | q <;> simp)
theorem Sb.app {B : Nat} {l : List Nat} {v : Value} {V : World} {b : List Nat} {n : Nat} {xs : List Value} (h : V.ownsRow B 5 1 v n xs) (hn : n = l.length + b.length) (hx : xs = bvL l ++ bvL b) : Sb B (l ++ b) v V := by
  unfold Sb
  rw [bvL_app, List.length_append, ← hn, ← hx]
  exact h
theorem one_app {B : Nat} {l : List Nat} {v : Value} {V : World} {b : Nat} (h : V.ownsRow B 5 1 v (l.length + 1) (bvL l ++ [.int .u8 (b : Int)])) : Sb B (l ++ [b]) v V := Sb.app h rfl rfl
end Go.Proofs.YtdcjngakmkgbmaaGreat
namespace Go.Proofs.YtdcjngakmkgbmaaGreat
set_option linter.unusedVariables false
open Go.RowKit
set_option maxRecDepth 20000 in
set_option maxHeartbeats 4000000 in
theorem SumR_of (x : Option Addr) (n c : Nat) (l : List Nat) (w : World) (hn : n ≤ 17592186044416) (hl : l.length = n) (hb : ∀ b ∈ l, b < 256) (hc : ∀ (k : Nat) b, l[k]? = some b → ∃ a, x = some a ∧ w.cell? (a.add k) = some (.int .u8 b)) :
    Calls Tryz.prog 42 #[.slice x n c] w fun e w' => e = .returned (.int .u32 (uW (crcF l))) ∧ w' = w := by
  have HC : Hid (∀ (k : Nat) b, l[k]? = some b → ∃ a, x = some a ∧ w.cell? (a.add k) = some (.int .u8 b)) := hc
  have HN : Hid (n ≤ 17592186044416) := hn
  have HL : Hid (l.length = n) := hl
  have HB : Hid (∀ b ∈ l, b < 256) := hb
  clear hc hn hl hb
  go_enter Tryz.func42, Tryz.ntmps42
  go_upto_region 2 with fail
  go_upto_region 3 with fail
  go_loopw [3, 4] (fun s i wr => ∃ k : Nat, k ≤ n ∧ s = .int .u32 (uW (crL 4294967295#32 (l.take k))) ∧ i = .int .i64 k ∧ wr = w) (fun _ i _ => n - (intOf i).toNat)
  case atStart => exact ⟨0, Nat.zero_le _, by rw [List.take_zero]; show _ = Value.int .u32 (uW 4294967295#32); rw [ones_u3], rfl, rfl⟩
  case round =>
    obtain ⟨k, hk, rfl, rfl, hw⟩ := hrel
    rw [hw]
    clear hw wr
    by_cases hlt : k < n
    · obtain ⟨b, hbk⟩ : ∃ b, l[k]? = some b := ⟨_, List.getElem?_eq_getElem (by rw [HL.out]; exact hlt)⟩
      have hb := HB.out b (List.mem_of_getElem? hbk)
      obtain ⟨a, rfl, f0⟩ := HC.out k b hbk
      have kl : (k : Int) < n := by omega
      have LT : Hid (k < n) := hlt
      have ek : wrap64 ((k : Int) + 1) = (k : Int) + 1 := by have := HN.out; unfold wrap64; omega
      have NX : Hid (crL 4294967295#32 (l.take (k + 1)) = crN 8 (crL 4294967295#32 (l.take k) ^^^ BitVec.ofNat 32 b)) := by
        show _ = _
        rw [List.take_add_one, hbk]
        exact crL_snoc _ _ _
      generalize crL 4294967295#32 (l.take k) = v at *
      have XV : Hid (bits .xor .u32 (uW v) (b : Int) = uW (v ^^^ BitVec.ofNat 32 b)) := by show _ = _; rw [← u3_nat b hb, xor_u3]
      have b0 : (b : Int) < 4294967296 := by omega
      clear hlt hk hbk hb
      go_upto_region 6 with fail
      go_upto_region 7 with fail
      clear f0
      go_loopw [3, 5] (fun s j wr => ∃ q : Nat, q ≤ 8 ∧ s = .int .u32 (uW (crN q (v ^^^ BitVec.ofNat 32 b))) ∧ j = .int .i64 q ∧ wr = w) (fun _ j _ => 8 - (intOf j).toNat)
      case atStart => exact ⟨0, Nat.zero_le _, by rw [show crN 0 (v ^^^ BitVec.ofNat 32 b) = v ^^^ BitVec.ofNat 32 b from rfl, ← XV.out]; first | done | rfl, rfl, rfl⟩
      case round =>
        obtain ⟨q, hq, rfl, rfl, hw⟩ := hrel
        rw [hw]
        clear hw wr
        by_cases qlt : q < 8
        · have ql : (q : Int) < 8 := by omega
          have QL : Hid (q < 8) := qlt
          have eq1 : wrap64 ((q : Int) + 1) = (q : Int) + 1 := by unfold wrap64; omega
          clear qlt hq
          have NY : Hid (crN (q + 1) (v ^^^ BitVec.ofNat 32 b) = crS (crN q (v ^^^ BitVec.ofNat 32 b))) := crN_snoc _ _
          generalize crN q (v ^^^ BitVec.ofNat 32 b) = z at *
          have hr := uW_range z
          cases hb : z.getLsbD 0
          · have m0 : uW z % 2 = 0 := by
              have := mt (odd_u3 z).1 (by rw [hb]; simp)
              omega
            have EN : Hid (crN (q + 1) (v ^^^ BitVec.ofNat 32 b) = z >>> 1) := NY.out.trans (crS_low hb)
            clear NY hb
            go_wp2
            refine ⟨⟨q + 1, Nat.succ_le_of_lt QL.out, ?_, rfl, trivial⟩, msr QL.out⟩
            rw [EN.out, half_2]
          · have m1 : uW z % 2 = 1 := (odd_u3 z).2 hb
            have EN : Hid (crN (q + 1) (v ^^^ BitVec.ofNat 32 b) = (z >>> 1) ^^^ 3988292384#32) := NY.out.trans (crS_odd hb)
            clear NY hb
            go_wp2
            refine ⟨⟨q + 1, Nat.succ_le_of_lt QL.out, ?_, rfl, trivial⟩, msr QL.out⟩
            rw [EN.out, half_2, ← xor_u3, poly_u3]
        · have ql : ¬ (q : Int) < 8 := by omega
          have e8 : q = 8 := by omega
          subst e8
          clear qlt hq
          go_wp2
          try rw [ek]
          exact ⟨⟨k + 1, Nat.succ_le_of_lt LT.out, by rw [NX.out], rfl, trivial⟩, msr LT.out⟩
    · have kl : ¬ (k : Int) < n := by omega
      have ekn : k = n := by omega
      subst ekn
      rw [show l.take k = l by rw [← HL.out, List.take_length]]
      have EX : Hid (bits .xor .u32 (uW (crL 4294967295#32 l)) 4294967295 = uW (crcF l)) := by show _ = _; rw [← ones_u3, xor_u3]; rfl
      clear hlt hk
      go_wp2
      go_ret
      exact ⟨by rw [EX.out]; rfl, rfl⟩
end Go.Proofs.YtdcjngakmkgbmaaGreat
namespace Go.Proofs.YtdcjngakmkgbmaaGreat
set_option linter.unusedVariables false
open Go.RowKit
theorem cr4_bv (c : BitVec 32) : bvL (cr4N c) = [.int .u8 (uW c % (256 : Int)), .int .u8 (uW c / (256 : Int) % (256 : Int)), .int .u8 (uW c / (65536 : Int) % (256 : Int)), .int .u8 (uW c / (16777216 : Int) % (256 : Int))] := by
  unfold bvL cr4N
  simp only [List.map_cons, List.map_nil, by_nat]
theorem four_new (W : World) (a b c d : Value) (t : TypeId) : ∀ j u, ([a, b, c, d] : List Value)[j]? = some u → (W.alloc (.cells #[a, b, c, d] t)).cell? ((⟨W.heap.size, 0, none⟩ : Addr).add j) = some u := by
  intro j u hj
  rw [Addr.add_mid, Nat.zero_add]
  have e := heap_alloc_last W (.cells #[a, b, c, d] t)
  rw [World.cell?, e]
  simpa using hj
theorem Sb.len {B : Nat} {l : List Nat} {x : Option Addr} {n c : Nat} {V : World} (h : Sb B l (.slice x n c) V) : n = l.length := by
  rcases h.2 with ⟨hv, h0⟩ | ⟨g, cap, cur, hv, _⟩
  · cases hv; exact h0.symm
  · cases hv; rfl
theorem Sb.cell {B : Nat} {l : List Nat} {x : Option Addr} {n c : Nat} {V : World} (h : Sb B l (.slice x n c) V) (j b : Nat) (hj : l[j]? = some b) : ∃ a, x = some a ∧ a.block < V.heap.size ∧ V.cell? (a.add j) = some (.int .u8 (b : Int)) := by
  have hl := (List.getElem?_eq_some_iff.1 hj).1
  rcases h.2 with ⟨hv, h0⟩ | ⟨g, cap, cur, hv, hx⟩
  · omega
  · cases hv
    have q := h
    unfold Sb at q
    have := q.cells (g := g) rfl j (.int .u8 (b : Int)) (by unfold bvL; rw [List.getElem?_map, hj]; rfl)
    exact ⟨_, rfl, blk_in hx.2.1, this⟩
set_option maxRecDepth 20000 in
set_option maxHeartbeats 4000000 in
theorem equalB (x y : Option Addr) (n c d : Nat) (l : List Nat) (w : World) (hl : n = l.length) (hn : l.length ≤ 4611686018427387904) (hx : ∀ (j : Nat) b, l[j]? = some b → ∃ a, x = some a ∧ a.block < w.heap.size ∧ w.cell? (a.add j) = some (.int .u8 (b : Int))) (hy : ∀ (j : Nat) b, l[j]? = some b → ∃ a, y = some a ∧ a.block < w.heap.size ∧ w.cell? (a.add j) = some (.int .u8 (b : Int))) :
    Calls Tryz.prog 9 #[.slice x n c, .slice y n d] w fun e w' => e = .returned (.bool true) ∧ Below w.heap.size w w' := by
  have HX : Hid (∀ (j : Nat) b, l[j]? = some b → ∃ a, x = some a ∧ a.block < w.heap.size ∧ w.cell? (a.add j) = some (.int .u8 (b : Int))) := hx
  have HY : Hid (∀ (j : Nat) b, l[j]? = some b → ∃ a, y = some a ∧ a.block < w.heap.size ∧ w.cell? (a.add j) = some (.int .u8 (b : Int))) := hy
  have HL : Hid (n = l.length) := hl
  have HN : Hid (l.length ≤ 4611686018427387904) := hn
  clear hx hy hl hn
  go_enter Tryz.func9, Tryz.ntmps9
  go_upto_region 3 with fail
  go_upto_region 4 with fail
  go_loopw [13] (fun i wr => ∃ k : Nat, k ≤ n ∧ i = .int .i64 k ∧ Below w.heap.size w wr) (fun i _ => n - (intOf i).toNat)
  case atStart => exact ⟨0, Nat.zero_le _, rfl, Below.refl _ _⟩
  case round =>
    obtain ⟨k, hk, rfl, hbw⟩ := hrel
    have HW : Hid (Below w.heap.size w wr) := hbw
    clear hbw
    by_cases hlt : k < n
    · obtain ⟨s, hs⟩ : ∃ s, l[k]? = some s := ⟨_, List.getElem?_eq_getElem (by have := HL.out; omega)⟩
      obtain ⟨a, rfl, za, e0⟩ := HX.out k s hs
      obtain ⟨b, rfl, zb, e1⟩ := HY.out k s hs
      have LT : Hid (k < n) := hlt
      have kl : (k : Int) < n := by omega
      have ew : wrap64 ((k : Int) + 1) = (k : Int) + 1 := by have := HN.out; have := HL.out; unfold wrap64; omega
      go_upto_region 6 with fail
      have cy : ∀ x : Sub wr, x.w.cell? (a.add k) = some (.int .u8 (s : Int)) := fun x => ((HW.out.trans (x.h.mono HW.out.size)).cell (by rw [add_block]; exact za)).trans e0
      have cz : ∀ x : Sub wr, x.w.cell? (b.add k) = some (.int .u8 (s : Int)) := fun x => ((HW.out.trans (x.h.mono HW.out.size)).cell (by rw [add_block]; exact zb)).trans e1
      clear hlt hk hs za zb e0 e1
      refine wp_region_sub2 (by kernel_rfl) (by kernel_rfl) ?_
      intro cx
      clear cx
      repeat (first | go_big_quiet_skip | (go_big_quiet_want; go_big_quiet_op; first | go_big_quiet_on | (refine ⟨_, fun _ => rfl, ?_⟩; go_big_quiet_on)))
      refine wpQuiet_nil ?_
      rintro _ ⟨y, rfl⟩
      have Y : Hid (Below w.heap.size w y.w) := HW.out.trans (y.h.mono HW.out.size)
      clear cy cz
      go_wp2
      try rw [ew]
      exact ⟨⟨k + 1, Nat.succ_le_of_lt LT.out, rfl, Y.out⟩, msr LT.out⟩
    · have kl : ¬ (k : Int) < n := by omega
      clear hlt hk
      go_wp2
      go_ret
      exact ⟨rfl, HW.out⟩
end Go.Proofs.YtdcjngakmkgbmaaGreat
namespace Go.Proofs.YtdcjngakmkgbmaaGreat
set_option linter.unusedVariables false
open Go.RowKit
def nsN (is : List Int) : List Nat := is.flatMap nbN
theorem nsN_len (is : List Int) : (nsN is).length = 8 * is.length := by
  unfold nsN
  induction is with
  | nil => rfl
  | cons a l ih => rw [List.flatMap_cons, List.length_append, ih, nbN_len, List.length_cons]; omega
theorem nsN_succ {is : List Int} {k : Nat} {v : Int} (h : is[k]? = some v) : nsN (is.take (k + 1)) = nsN (is.take k) ++ nbN v := by
  unfold nsN
  rw [List.take_add_one, h, List.flatMap_append]
  simp
theorem msrE {n k : Nat} (h : k < n) : n - (intOf (.int .i64 ((k : Int) + 1))).toNat < n - (intOf (.int .i64 (k : Int))).toNat := by
  show n - ((k : Int) + 1).toNat < n - (k : Int).toNat
  omega
set_option maxRecDepth 20000 in
set_option maxHeartbeats 4000000 in
theorem numbersX (B g : Nat) (l : List Nat) (is : List Int) (k c : Nat) (fr : Nat × Nat) (w : World) (h : Wb B g l w) (hb : w.heap[k]? = some (.cells (is.map (Value.int .i64)).toArray 3 fr)) (hl : l.length ≤ 17592186044416) (hi : is.length ≤ 1000) :
    Calls Tryz.prog 60 #[.pointer (some ⟨g, 0, none⟩), .slice (some ⟨k, 0, none⟩) is.length c] w fun e w' => e = .returned (.tuple #[]) ∧ Wb B g (l ++ nsN is) w' ∧ Bq B w w' := by
  have H : Hid (Wb B g l w) := h
  have HK : Hid (∀ V, Bq B w V → ∀ (j : Nat) v, is[j]? = some v → V.cell? ⟨k, j, none⟩ = some (.int .i64 v)) := fun V hV j v hj => by
    have e := hV.k k _ _ _ hb (by decide) (by decide)
    simp [World.cell?, e, hj]
  have HN : Hid (is.length ≤ 1000) := hi
  have R0 : Hid (∀ (j : Nat) v W, is[j]? = some v → Wb B g (l ++ nsN (is.take j)) W → Calls Tryz.prog 57 #[.pointer (some ⟨g, 0, none⟩), .int .i64 v] W fun e w' => e = .returned (.tuple #[]) ∧ Wb B g (l ++ nsN (is.take (j + 1))) w' ∧ Bq B W w') := fun j v W hj hW => by
    rw [nsN_succ hj, ← List.append_assoc]
    exact numberX B g _ v W hW (by rw [List.length_append, nsN_len, List.length_take]; omega)
  clear h hl hi hb
  go_enter Tryz.func60, Tryz.ntmps60
  go_upto_region 1 with fail
  go_loopw [8] (fun i wr => ∃ j : Nat, j ≤ is.length ∧ i = .int .i64 j ∧ Wb B g (l ++ nsN (is.take j)) wr ∧ Bq B w wr) (fun i _ => is.length - (intOf i).toNat)
  case atStart => exact ⟨0, Nat.zero_le _, rfl, by rw [List.take_zero, show nsN [] = [] from rfl, List.append_nil]; exact H.out, Bq.refl _ _⟩
  case round =>
    obtain ⟨j, hj, rfl, hw, hb⟩ := hrel
    have HW : Hid (Wb B g (l ++ nsN (is.take j)) wr) := hw
    have HB : Hid (Bq B w wr) := hb
    clear hw hb
    by_cases hlt : j < is.length
    · obtain ⟨v, hv⟩ : ∃ v, is[j]? = some v := ⟨_, List.getElem?_eq_getElem hlt⟩
      have HV : Hid (is[j]? = some v) := hv
      have f0 := HK.out wr HB.out j v hv
      have kl : (j : Int) < is.length := by omega
      have LT : Hid (j < is.length) := hlt
      have ek : wrap64 ((j : Int) + 1) = (j : Int) + 1 := by have := HN.out; unfold wrap64; omega
      clear hlt hv hj
      go_wp2_with (go_at_call 57; refine (R0.out j v _ HV.out HW.out).mono ?_)
      first | (rintro e w1 ⟨he, h1, hb1⟩; have he' := he) | (rintro e w1 he h1 hb1)
      subst he
      have H1 : Hid (Wb B g (l ++ nsN (is.take (j + 1))) w1) := h1
      have B1 : Hid (Bq B w w1) := HB.out.trans hb1
      clear h1 hb1 f0
      go_wp2
      try rw [ek]
      exact ⟨⟨j + 1, Nat.succ_le_of_lt LT.out, rfl, H1.out, B1.out⟩, msrE LT.out⟩
    · have kl : ¬ (j : Int) < is.length := by omega
      have ek : j = is.length := by omega
      subst ek
      rw [List.take_length] at HW
      clear hlt hj
      go_wp2
      go_end0
      exact ⟨rfl, HW.out, HB.out⟩
set_option maxRecDepth 20000 in
set_option maxHeartbeats 4000000 in
theorem textX (B g : Nat) (bs : List Nat) (s : ByteArray) (w : World) (h : Wb B g bs w) (hl : bs.length ≤ 17592186044416) (hs : s.size ≤ 4194304) :
    Calls Tryz.prog 25 #[.pointer (some ⟨g, 0, none⟩), .string s] w fun e w' => e = .returned (.tuple #[]) ∧ Wb B g (bs ++ tbN s) w' ∧ Bq B w w' := by
  obtain ⟨i0, hi, hz0, hz1, hz2⟩ := u8_info
  have HB := h.lt
  have N0 : Hid (∀ W, Wb B g bs W → Calls Tryz.prog 57 #[.pointer (some ⟨g, 0, none⟩), .int .i64 s.size] W fun e w' => e = .returned (.tuple #[]) ∧ Wb B g (bs ++ nbN s.size) w' ∧ Bq B W w') := fun W hW => numberX B g bs _ W hW (by omega)
  have H : Hid (Wb B g bs w) := h
  have HL : Hid (bs.length ≤ 17592186044416) := hl
  have HS : Hid (s.size ≤ 4194304) := hs
  clear h hl hs
  go_enter Tryz.func25, Tryz.ntmps25
  go_wp2_with (go_at_call 57; refine (N0.out _ H.out).mono ?_)
  first | (rintro e w1 ⟨he, h1, hb1⟩; have he' := he) | (rintro e w1 he h1 hb1)
  subst he
  have B1 : Hid (Bq B w w1) := hb1
  have HB1 := h1.lt
  have HU1 := h1.u8
  obtain ⟨x, n, c, hg, hown⟩ := h1.shape
  have c0 : w1.cell? ⟨g, 0, none⟩ = some (.slice x n c) := by simp [World.cell?, hg]
  have HG : Hid (w1.heap[g]? = some (.cells #[.slice x n c] 58 (0, 0))) := hg
  have HO : Hid (w1.ownsRow B 5 1 (.slice x n c) (bvL (bs ++ nbN s.size)).length (bvL (bs ++ nbN s.size))) := hown
  have NE : Hid ((Value.slice x n c).ownBlock ≠ some g) := Lib.ownBlock_ne hown hg (by decide)
  have SZ : Hid ((bvL (bs ++ nbN s.size)).length ≤ 17592186044424) := by show _ ≤ _; rw [bvL_len, List.length_append, nbN_len]; have := HL.out; omega
  have ET : Hid (bvL (bs ++ tbN s) = bvL (bs ++ nbN s.size) ++ Lib.strCells s) := by show _ = _; rw [← sbN_str, ← bvL_app]; unfold tbN; rw [List.append_assoc]
  generalize bvL (bs ++ nbN s.size) = L1 at *
  clear h1 hg hown hb1 N0
  go_wp2_with (at_builtin; refine Lib.wpList_append_own_string _ rfl _ _ 27 9 rfl B 5 i0 Tryz.underlying27 Tryz.underlying9 hi hz0 hz1 hz2 _ _ _ rfl HO.out s rfl ?c3 ?c4 ?c5 ?_)
  case c3 => have := SZ.out; have := HS.out; unfold maxLen; omega
  case c4 => have := SZ.out; have := HS.out; omega
  case c5 => omega
  intro v' w2 hown' hgrow hnil
  have O1 : Hid (w2.ownsRow B 5 1 v' (L1 ++ Lib.strCells s).length (L1 ++ Lib.strCells s)) := by show World.ownsRow _ _ _ _ _ _ _; first | (rw [List.length_append, Lib.strCells_length]; exact hown')
  have G1 : Hid (w2.heap[g]? = some (.cells #[.slice x n c] 58 (0, 0))) := by
    rw [hgrow.block g HB1.2 (fun e => NE.out e.symm)]
    exact HG.out
  have B2 : Hid (Bq B w w2) := B1.out.grown HO.out hgrow (by omega)
  have d0 : w2.cell? ⟨g, 0, none⟩ = some (.slice x n c) := by simp [World.cell?, G1.out]
  have d1 : w2.frozen? ⟨g, 0, none⟩ = false := by simp [World.frozen?, G1.out]
  obtain ⟨y, k, q, rfl⟩ : ∃ y k q, v' = .slice y k q := by
    rcases hown'.2 with ⟨hv, _⟩ | ⟨_, cap, cur, hv, _⟩
    · exact ⟨_, _, _, hv⟩
    · exact ⟨_, _, _, hv⟩
  clear hown' hgrow hnil c0
  go_wp2
  go_end0
  exact ⟨rfl, by unfold Wb; rw [ET.out]; exact Wq.put HB.1 G1.out O1.out (HU1.app (U8s.str s)), B2.out.set G1.out HB.1 _ _⟩
set_option maxRecDepth 20000 in
set_option maxHeartbeats 4000000 in
theorem valueX (B g : Nat) (bs : List Nat) (k b : Int) (s : ByteArray) (w : World) (h : Wb B g bs w) (hl : bs.length ≤ 8796093022208) (hs : s.size ≤ 4194304) (hk : 0 ≤ k ∧ k < 256) :
    Calls Tryz.prog 61 #[.pointer (some ⟨g, 0, none⟩), .agg #[.int .u8 k, .int .u64 b, .string s]] w fun e w' => e = .returned (.tuple #[]) ∧ Wb B g (bs ++ vbN k b s) w' ∧ Bq B w w' := by
  have HB := h.lt
  have R0 : Hid (∀ W, Wb B g bs W → Calls Tryz.prog 58 #[.pointer (some ⟨g, 0, none⟩), .int .u8 k] W fun e w' => e = .returned (.tuple #[]) ∧ Wb B g (bs ++ [(k % (256 : Int)).toNat]) w' ∧ Bq B W w') := fun W hW => rawX B g bs _ k (by omega) W hW (by omega)
  have N0 : Hid (∀ W, Wb B g (bs ++ [(k % (256 : Int)).toNat]) W → Calls Tryz.prog 57 #[.pointer (some ⟨g, 0, none⟩), .int .i64 (wrap64 b)] W fun e w' => e = .returned (.tuple #[]) ∧ Wb B g (bs ++ [(k % (256 : Int)).toNat] ++ nbN (wrap64 b)) w' ∧ Bq B W w') := fun W hW => numberX B g _ _ W hW (by rw [List.length_append]; simp; omega)
  have T0 : Hid (∀ W, Wb B g (bs ++ [(k % (256 : Int)).toNat] ++ nbN (wrap64 b)) W → Calls Tryz.prog 25 #[.pointer (some ⟨g, 0, none⟩), .string s] W fun e w' => e = .returned (.tuple #[]) ∧ Wb B g (bs ++ vbN k b s) w' ∧ Bq B W w') := fun W hW => by
    have e : bs ++ vbN k b s = bs ++ [(k % (256 : Int)).toNat] ++ nbN (wrap64 b) ++ tbN s := by unfold vbN; simp only [List.append_assoc]
    rw [e]
    exact textX B g _ s W hW (by rw [List.length_append, List.length_append, nbN_len]; simp; omega) hs
  obtain ⟨AW, eW⟩ : ∃ AW, AW = w.alloc (.cells #[.int .u8 k, .int .u64 b, .string s] 38 (0, 0)) := ⟨_, rfl⟩
  have AX : Hid (AW.heap[w.heap.size]? = some (.cells #[.int .u8 k, .int .u64 b, .string s] 38 (0, 0))) := by rw [eW]; exact heap_alloc_last _ _
  have AB : Hid (Below w.heap.size w AW) := by rw [eW]; exact (Below.refl _ _).alloc (Nat.le_refl _) _
  have QA : Hid (Bq B w AW) := Bq.up AB.out (by omega)
  have H0 : Hid (Wb B g bs AW) := Wq.below h AB.out
  clear h hl hs hk
  have i0 : AW.cell? ⟨w.heap.size, 0, none⟩ = some (.int .u8 k) := by simp [World.cell?, AX.out]
  go_enter Tryz.func61, Tryz.ntmps61
  go_upto_region 1 with fail
  rw [← eW]
  clear eW
  go_wp2_with (go_at_call 58; refine (R0.out _ H0.out).mono ?_)
  first | (rintro e w1 ⟨he, h1, hb1⟩; have he' := he) | (rintro e w1 he h1 hb1)
  subst he
  have H1 : Hid (Wb B g (bs ++ [(k % (256 : Int)).toNat]) w1) := h1
  have Q1 : Hid (Bq B AW w1) := hb1
  have X1 := hb1.k _ _ _ _ AX.out (by decide) (by decide)
  have i1 : w1.cell? ⟨w.heap.size, 1, none⟩ = some (.int .u64 b) := by simp [World.cell?, X1]
  clear h1 hb1 i0 X1
  go_wp2_with (go_at_call 57; refine (N0.out _ H1.out).mono ?_)
  first | (rintro e w2 ⟨he, h1, hb1⟩; have he' := he) | (rintro e w2 he h1 hb1)
  subst he
  have H2 : Hid (Wb B g (bs ++ [(k % (256 : Int)).toNat] ++ nbN (wrap64 b)) w2) := h1
  have Q2 : Hid (Bq B AW w2) := Q1.out.trans hb1
  have X2 := Q2.out.k _ _ _ _ AX.out (by decide) (by decide)
  have i2 : w2.cell? ⟨w.heap.size, 2, none⟩ = some (.string s) := by simp [World.cell?, X2]
  clear h1 hb1 i1 X2
  go_wp2_with (go_at_call 25; refine (T0.out _ H2.out).mono ?_)
  first | (rintro e w3 ⟨he, h1, hb1⟩; have he' := he) | (rintro e w3 he h1 hb1)
  subst he
  have H3 : Hid (Wb B g (bs ++ vbN k b s) w3) := h1
  have Q3 : Hid (Bq B w w3) := QA.out.trans (Q2.out.trans hb1)
  clear h1 hb1 i2
  go_wp2
  go_end0
  exact ⟨rfl, H3.out, Q3.out⟩
end Go.Proofs.YtdcjngakmkgbmaaGreat
namespace Go.Proofs.YtdcjngakmkgbmaaGreat
set_option linter.unusedVariables false
open Go.RowKit
def cbN (c : CeR) : List Nat := [(c.kd % (256 : Int)).toNat] ++ [bbN c.sb] ++ nsN [c.lo, c.hi, c.mx] ++ vbN c.ik c.ib c.is ++ [bbN c.kp] ++ [(c.dr % (256 : Int)).toNat] ++ tbN c.ad
def obN (o : OpR) : List Nat := nsN [o.cd, o.a, o.b, o.c, o.d, o.lo, o.hi] ++ vbN o.vk o.vb o.vs
def lbN (l : LpR) : List Nat := nsN [l.hd, l.en, l.tm]
theorem cbN_len (c : CeR) : (cbN c).length = 53 + c.is.size + c.ad.size := by unfold cbN; (repeat first | rw [List.length_append] | rw [nsN_len] | rw [nbN_len] | rw [tbN_len] | rw [vbN_len] | rw [List.length_cons] | rw [List.length_nil]); all_goals omega
theorem obN_len (o : OpR) : (obN o).length = 73 + o.vs.size := by unfold obN; (repeat first | rw [List.length_append] | rw [nsN_len] | rw [nbN_len] | rw [tbN_len] | rw [vbN_len] | rw [List.length_cons] | rw [List.length_nil]); all_goals omega
theorem lbN_len (l : LpR) : (lbN l).length = 24 := by unfold lbN; (repeat first | rw [List.length_append] | rw [nsN_len] | rw [nbN_len] | rw [tbN_len] | rw [vbN_len] | rw [List.length_cons] | rw [List.length_nil]); all_goals omega
set_option maxRecDepth 20000 in
set_option maxHeartbeats 4000000 in
theorem cellX (B g : Nat) (bs : List Nat) (c : CeR) (w : World) (h : Wb B g bs w) (hl : bs.length ≤ 6597069766656) (hk : 0 ≤ c.kd ∧ c.kd < 256) (hi : 0 ≤ c.ik ∧ c.ik < 256) (hs : c.is.size ≤ 4194304) (ha : c.ad.size ≤ 4194304) :
    Calls Tryz.prog 27 #[.pointer (some ⟨g, 0, none⟩), CeV c] w fun e w' => e = .returned (.tuple #[]) ∧ Wb B g (bs ++ cbN c) w' ∧ Bq B w w' := by
  have HB := h.lt
  have R0 : Hid (∀ W, Bq B w W → Wb B g (bs) W → Calls Tryz.prog 58 #[.pointer (some ⟨g, 0, none⟩), .int .u8 c.kd] W fun e w' => e = .returned (.tuple #[]) ∧ Wb B g (bs ++ [(c.kd % (256 : Int)).toNat]) w' ∧ Bq B W w') := fun W hQ hW => rawX B g (bs) _ c.kd (by omega) W hW (by (repeat first | rw [List.length_append] | rw [nsN_len] | rw [nbN_len] | rw [tbN_len] | rw [vbN_len] | rw [List.length_cons] | rw [List.length_nil]); all_goals omega)
  have R1 : Hid (∀ W, Bq B w W → Wb B g (bs ++ [(c.kd % (256 : Int)).toNat]) W → Calls Tryz.prog 59 #[.pointer (some ⟨g, 0, none⟩), .bool c.sb] W fun e w' => e = .returned (.tuple #[]) ∧ Wb B g (bs ++ [(c.kd % (256 : Int)).toNat] ++ [bbN c.sb]) w' ∧ Bq B W w') := fun W hQ hW => flagX B g (bs ++ [(c.kd % (256 : Int)).toNat]) c.sb W hW (by (repeat first | rw [List.length_append] | rw [nsN_len] | rw [nbN_len] | rw [tbN_len] | rw [vbN_len] | rw [List.length_cons] | rw [List.length_nil]); all_goals omega)
  have R2 : Hid (∀ W, Bq B w W → Wb B g (bs ++ [(c.kd % (256 : Int)).toNat] ++ [bbN c.sb]) W → Calls Tryz.prog 60 #[.pointer (some ⟨g, 0, none⟩), .slice (some ⟨W.heap.size, 0, none⟩) 3 3] (W.alloc (.cells #[.int .i64 c.lo, .int .i64 c.hi, .int .i64 c.mx] 3 (0, 0))) fun e w' => e = .returned (.tuple #[]) ∧ Wb B g (bs ++ [(c.kd % (256 : Int)).toNat] ++ [bbN c.sb] ++ nsN [c.lo, c.hi, c.mx]) w' ∧ Bq B W w') := fun W hQ hW => by
    have q := numbersX B g (bs ++ [(c.kd % (256 : Int)).toNat] ++ [bbN c.sb]) [c.lo, c.hi, c.mx] W.heap.size 3 (0, 0) (W.alloc (.cells #[.int .i64 c.lo, .int .i64 c.hi, .int .i64 c.mx] 3 (0, 0))) (Wq.below hW ((Below.refl _ _).alloc (Nat.le_refl _) _)) (heap_alloc_last _ _) (by (repeat first | rw [List.length_append] | rw [nsN_len] | rw [nbN_len] | rw [tbN_len] | rw [vbN_len] | rw [List.length_cons] | rw [List.length_nil]); all_goals omega) (by simp)
    have z := hW.lt
    refine q.mono ?_
    rintro e w' ⟨he, h1, h2⟩
    exact ⟨he, by exact h1, (Bq.up ((Below.refl _ _).alloc (Nat.le_refl _) _) (by omega)).trans h2⟩
  have R3 : Hid (∀ W, Bq B w W → Wb B g (bs ++ [(c.kd % (256 : Int)).toNat] ++ [bbN c.sb] ++ nsN [c.lo, c.hi, c.mx]) W → Calls Tryz.prog 61 #[.pointer (some ⟨g, 0, none⟩), .agg #[.int .u8 c.ik, .int .u64 c.ib, .string c.is]] W fun e w' => e = .returned (.tuple #[]) ∧ Wb B g (bs ++ [(c.kd % (256 : Int)).toNat] ++ [bbN c.sb] ++ nsN [c.lo, c.hi, c.mx] ++ vbN c.ik c.ib c.is) w' ∧ Bq B W w') := fun W hQ hW => valueX B g (bs ++ [(c.kd % (256 : Int)).toNat] ++ [bbN c.sb] ++ nsN [c.lo, c.hi, c.mx]) c.ik c.ib c.is W hW (by (repeat first | rw [List.length_append] | rw [nsN_len] | rw [nbN_len] | rw [tbN_len] | rw [vbN_len] | rw [List.length_cons] | rw [List.length_nil]); all_goals omega) hs hi
  have R4 : Hid (∀ W, Bq B w W → Wb B g (bs ++ [(c.kd % (256 : Int)).toNat] ++ [bbN c.sb] ++ nsN [c.lo, c.hi, c.mx] ++ vbN c.ik c.ib c.is) W → Calls Tryz.prog 59 #[.pointer (some ⟨g, 0, none⟩), .bool c.kp] W fun e w' => e = .returned (.tuple #[]) ∧ Wb B g (bs ++ [(c.kd % (256 : Int)).toNat] ++ [bbN c.sb] ++ nsN [c.lo, c.hi, c.mx] ++ vbN c.ik c.ib c.is ++ [bbN c.kp]) w' ∧ Bq B W w') := fun W hQ hW => flagX B g (bs ++ [(c.kd % (256 : Int)).toNat] ++ [bbN c.sb] ++ nsN [c.lo, c.hi, c.mx] ++ vbN c.ik c.ib c.is) c.kp W hW (by (repeat first | rw [List.length_append] | rw [nsN_len] | rw [nbN_len] | rw [tbN_len] | rw [vbN_len] | rw [List.length_cons] | rw [List.length_nil]); all_goals omega)
  have R5 : Hid (∀ W, Bq B w W → Wb B g (bs ++ [(c.kd % (256 : Int)).toNat] ++ [bbN c.sb] ++ nsN [c.lo, c.hi, c.mx] ++ vbN c.ik c.ib c.is ++ [bbN c.kp]) W → Calls Tryz.prog 58 #[.pointer (some ⟨g, 0, none⟩), .int .u8 (c.dr % (256 : Int))] W fun e w' => e = .returned (.tuple #[]) ∧ Wb B g (bs ++ [(c.kd % (256 : Int)).toNat] ++ [bbN c.sb] ++ nsN [c.lo, c.hi, c.mx] ++ vbN c.ik c.ib c.is ++ [bbN c.kp] ++ [(c.dr % (256 : Int)).toNat]) w' ∧ Bq B W w') := fun W hQ hW => rawX B g (bs ++ [(c.kd % (256 : Int)).toNat] ++ [bbN c.sb] ++ nsN [c.lo, c.hi, c.mx] ++ vbN c.ik c.ib c.is ++ [bbN c.kp]) _ _ (by_nat _).symm W hW (by (repeat first | rw [List.length_append] | rw [nsN_len] | rw [nbN_len] | rw [tbN_len] | rw [vbN_len] | rw [List.length_cons] | rw [List.length_nil]); all_goals omega)
  have R6 : Hid (∀ W, Bq B w W → Wb B g (bs ++ [(c.kd % (256 : Int)).toNat] ++ [bbN c.sb] ++ nsN [c.lo, c.hi, c.mx] ++ vbN c.ik c.ib c.is ++ [bbN c.kp] ++ [(c.dr % (256 : Int)).toNat]) W → Calls Tryz.prog 25 #[.pointer (some ⟨g, 0, none⟩), .string c.ad] W fun e w' => e = .returned (.tuple #[]) ∧ Wb B g (bs ++ cbN c) w' ∧ Bq B W w') := fun W hQ hW => by
    have q := textX B g (bs ++ [(c.kd % (256 : Int)).toNat] ++ [bbN c.sb] ++ nsN [c.lo, c.hi, c.mx] ++ vbN c.ik c.ib c.is ++ [bbN c.kp] ++ [(c.dr % (256 : Int)).toNat]) c.ad W hW (by (repeat first | rw [List.length_append] | rw [nsN_len] | rw [nbN_len] | rw [tbN_len] | rw [vbN_len] | rw [List.length_cons] | rw [List.length_nil]); all_goals omega) ha
    refine q.mono ?_
    rintro e w' ⟨he, h1, h2⟩
    exact ⟨he, by simpa only [cbN, List.append_assoc] using h1, h2⟩
  obtain ⟨AW, eW⟩ : ∃ AW, AW = w.alloc (.cells #[.int .u8 c.kd, .bool c.sb, .int .i64 c.lo, .int .i64 c.hi, .int .i64 c.mx, .int .u8 c.ik, .int .u64 c.ib, .string c.is, .bool c.kp, .int .i64 c.dr, .string c.ad] 40 (0, 0)) := ⟨_, rfl⟩
  have AX : Hid (AW.heap[w.heap.size]? = some (.cells #[.int .u8 c.kd, .bool c.sb, .int .i64 c.lo, .int .i64 c.hi, .int .i64 c.mx, .int .u8 c.ik, .int .u64 c.ib, .string c.is, .bool c.kp, .int .i64 c.dr, .string c.ad] 40 (0, 0))) := by rw [eW]; exact heap_alloc_last _ _
  have AB : Hid (Below w.heap.size w AW) := by rw [eW]; exact (Below.refl _ _).alloc (Nat.le_refl _) _
  have Q0 : Hid (Bq B AW AW) := Bq.refl _ _
  have QA : Hid (Bq B w AW) := Bq.up AB.out (by omega)
  have H0 : Hid (Wb B g bs AW) := Wq.below h AB.out
  clear h hl hk hi hs ha
  go_enter Tryz.func27, Tryz.ntmps27
  go_upto_region 1 with fail
  rw [← eW]
  clear eW
  have X := Q0.out.k _ _ _ _ AX.out (by decide) (by decide)
  have i0 : AW.cell? ⟨w.heap.size, 0, none⟩ = some (.int .u8 c.kd) := by simp [World.cell?, X]
  clear X
  go_wp2_with (go_at_call 58; refine (R0.out _ (QA.out.trans Q0.out) H0.out).mono ?_)
  first | (rintro e w1 ⟨he, h1, hb1⟩; have he' := he) | (rintro e w1 he h1 hb1)
  subst he
  have H1 : Hid (Wb B g (bs ++ [(c.kd % (256 : Int)).toNat]) w1) := h1
  have Q1 : Hid (Bq B AW w1) := Q0.out.trans hb1
  clear h1 hb1 i0
  have X := Q1.out.k _ _ _ _ AX.out (by decide) (by decide)
  have i1 : w1.cell? ⟨w.heap.size, 1, none⟩ = some (.bool c.sb) := by simp [World.cell?, X]
  clear X
  go_wp2_with (go_at_call 59; refine (R1.out _ (QA.out.trans Q1.out) H1.out).mono ?_)
  first | (rintro e w2 ⟨he, h1, hb1⟩; have he' := he) | (rintro e w2 he h1 hb1)
  subst he
  have H2 : Hid (Wb B g (bs ++ [(c.kd % (256 : Int)).toNat] ++ [bbN c.sb]) w2) := h1
  have Q2 : Hid (Bq B AW w2) := Q1.out.trans hb1
  clear h1 hb1 i1
  have X := Q2.out.k _ _ _ _ AX.out (by decide) (by decide)
  have i2 : w2.cell? ⟨w.heap.size, 2, none⟩ = some (.int .i64 c.lo) := by simp [World.cell?, X]
  have i3 : w2.cell? ⟨w.heap.size, 3, none⟩ = some (.int .i64 c.hi) := by simp [World.cell?, X]
  have i4 : w2.cell? ⟨w.heap.size, 4, none⟩ = some (.int .i64 c.mx) := by simp [World.cell?, X]
  clear X
  go_wp2_with (go_at_call 60; refine (R2.out _ (QA.out.trans Q2.out) H2.out).mono ?_)
  first | (rintro e w3 ⟨he, h1, hb1⟩; have he' := he) | (rintro e w3 he h1 hb1)
  subst he
  have H3 : Hid (Wb B g (bs ++ [(c.kd % (256 : Int)).toNat] ++ [bbN c.sb] ++ nsN [c.lo, c.hi, c.mx]) w3) := h1
  have Q3 : Hid (Bq B AW w3) := Q2.out.trans hb1
  clear h1 hb1 i2 i3 i4
  have X := Q3.out.k _ _ _ _ AX.out (by decide) (by decide)
  have i5 : w3.cell? ⟨w.heap.size, 5, none⟩ = some (.int .u8 c.ik) := by simp [World.cell?, X]
  have i6 : w3.cell? ⟨w.heap.size, 6, none⟩ = some (.int .u64 c.ib) := by simp [World.cell?, X]
  have i7 : w3.cell? ⟨w.heap.size, 7, none⟩ = some (.string c.is) := by simp [World.cell?, X]
  clear X
  go_wp2_with (go_at_call 61; refine (R3.out _ (QA.out.trans Q3.out) H3.out).mono ?_)
  first | (rintro e w4 ⟨he, h1, hb1⟩; have he' := he) | (rintro e w4 he h1 hb1)
  subst he
  have H4 : Hid (Wb B g (bs ++ [(c.kd % (256 : Int)).toNat] ++ [bbN c.sb] ++ nsN [c.lo, c.hi, c.mx] ++ vbN c.ik c.ib c.is) w4) := h1
  have Q4 : Hid (Bq B AW w4) := Q3.out.trans hb1
  clear h1 hb1 i5 i6 i7
  have X := Q4.out.k _ _ _ _ AX.out (by decide) (by decide)
  have i8 : w4.cell? ⟨w.heap.size, 8, none⟩ = some (.bool c.kp) := by simp [World.cell?, X]
  clear X
  go_wp2_with (go_at_call 59; refine (R4.out _ (QA.out.trans Q4.out) H4.out).mono ?_)
  first | (rintro e w5 ⟨he, h1, hb1⟩; have he' := he) | (rintro e w5 he h1 hb1)
  subst he
  have H5 : Hid (Wb B g (bs ++ [(c.kd % (256 : Int)).toNat] ++ [bbN c.sb] ++ nsN [c.lo, c.hi, c.mx] ++ vbN c.ik c.ib c.is ++ [bbN c.kp]) w5) := h1
  have Q5 : Hid (Bq B AW w5) := Q4.out.trans hb1
  clear h1 hb1 i8
  have X := Q5.out.k _ _ _ _ AX.out (by decide) (by decide)
  have i9 : w5.cell? ⟨w.heap.size, 9, none⟩ = some (.int .i64 c.dr) := by simp [World.cell?, X]
  clear X
  go_wp2_with (go_at_call 58; refine (R5.out _ (QA.out.trans Q5.out) H5.out).mono ?_)
  first | (rintro e w6 ⟨he, h1, hb1⟩; have he' := he) | (rintro e w6 he h1 hb1)
  subst he
  have H6 : Hid (Wb B g (bs ++ [(c.kd % (256 : Int)).toNat] ++ [bbN c.sb] ++ nsN [c.lo, c.hi, c.mx] ++ vbN c.ik c.ib c.is ++ [bbN c.kp] ++ [(c.dr % (256 : Int)).toNat]) w6) := h1
  have Q6 : Hid (Bq B AW w6) := Q5.out.trans hb1
  clear h1 hb1 i9
  have X := Q6.out.k _ _ _ _ AX.out (by decide) (by decide)
  have i10 : w6.cell? ⟨w.heap.size, 10, none⟩ = some (.string c.ad) := by simp [World.cell?, X]
  clear X
  go_wp2_with (go_at_call 25; refine (R6.out _ (QA.out.trans Q6.out) H6.out).mono ?_)
  first | (rintro e w7 ⟨he, h1, hb1⟩; have he' := he) | (rintro e w7 he h1 hb1)
  subst he
  have H7 : Hid (Wb B g (bs ++ cbN c) w7) := h1
  have Q7 : Hid (Bq B AW w7) := Q6.out.trans hb1
  clear h1 hb1 i10
  go_wp2
  go_end0
  exact ⟨rfl, H7.out, QA.out.trans Q7.out⟩
set_option maxRecDepth 20000 in
set_option maxHeartbeats 4000000 in
theorem opX (B g : Nat) (bs : List Nat) (o : OpR) (w : World) (h : Wb B g bs w) (hl : bs.length ≤ 6597069766656) (hk : 0 ≤ o.vk ∧ o.vk < 256) (hs : o.vs.size ≤ 4194304) :
    Calls Tryz.prog 63 #[.pointer (some ⟨g, 0, none⟩), OpV o] w fun e w' => e = .returned (.tuple #[]) ∧ Wb B g (bs ++ obN o) w' ∧ Bq B w w' := by
  have HB := h.lt
  have R0 : Hid (∀ W, Bq B w W → Wb B g (bs) W → Calls Tryz.prog 60 #[.pointer (some ⟨g, 0, none⟩), .slice (some ⟨W.heap.size, 0, none⟩) 7 7] (W.alloc (.cells #[.int .i64 o.cd, .int .i64 o.a, .int .i64 o.b, .int .i64 o.c, .int .i64 o.d, .int .i64 o.lo, .int .i64 o.hi] 3 (0, 0))) fun e w' => e = .returned (.tuple #[]) ∧ Wb B g (bs ++ nsN [o.cd, o.a, o.b, o.c, o.d, o.lo, o.hi]) w' ∧ Bq B W w') := fun W hQ hW => by
    have q := numbersX B g (bs) [o.cd, o.a, o.b, o.c, o.d, o.lo, o.hi] W.heap.size 7 (0, 0) (W.alloc (.cells #[.int .i64 o.cd, .int .i64 o.a, .int .i64 o.b, .int .i64 o.c, .int .i64 o.d, .int .i64 o.lo, .int .i64 o.hi] 3 (0, 0))) (Wq.below hW ((Below.refl _ _).alloc (Nat.le_refl _) _)) (heap_alloc_last _ _) (by (repeat first | rw [List.length_append] | rw [nsN_len] | rw [nbN_len] | rw [tbN_len] | rw [vbN_len] | rw [List.length_cons] | rw [List.length_nil]); all_goals omega) (by simp)
    have z := hW.lt
    refine q.mono ?_
    rintro e w' ⟨he, h1, h2⟩
    exact ⟨he, by exact h1, (Bq.up ((Below.refl _ _).alloc (Nat.le_refl _) _) (by omega)).trans h2⟩
  have R1 : Hid (∀ W, Bq B w W → Wb B g (bs ++ nsN [o.cd, o.a, o.b, o.c, o.d, o.lo, o.hi]) W → Calls Tryz.prog 61 #[.pointer (some ⟨g, 0, none⟩), .agg #[.int .u8 o.vk, .int .u64 o.vb, .string o.vs]] W fun e w' => e = .returned (.tuple #[]) ∧ Wb B g (bs ++ obN o) w' ∧ Bq B W w') := fun W hQ hW => by
    have q := valueX B g (bs ++ nsN [o.cd, o.a, o.b, o.c, o.d, o.lo, o.hi]) o.vk o.vb o.vs W hW (by (repeat first | rw [List.length_append] | rw [nsN_len] | rw [nbN_len] | rw [tbN_len] | rw [vbN_len] | rw [List.length_cons] | rw [List.length_nil]); all_goals omega) hs hk
    refine q.mono ?_
    rintro e w' ⟨he, h1, h2⟩
    exact ⟨he, by simpa only [obN, List.append_assoc] using h1, h2⟩
  obtain ⟨AW, eW⟩ : ∃ AW, AW = w.alloc (.cells #[.int .i64 o.cd, .int .i64 o.a, .int .i64 o.b, .int .i64 o.c, .int .i64 o.d, .int .i64 o.lo, .int .i64 o.hi, .int .u8 o.vk, .int .u64 o.vb, .string o.vs] 46 (0, 0)) := ⟨_, rfl⟩
  have AX : Hid (AW.heap[w.heap.size]? = some (.cells #[.int .i64 o.cd, .int .i64 o.a, .int .i64 o.b, .int .i64 o.c, .int .i64 o.d, .int .i64 o.lo, .int .i64 o.hi, .int .u8 o.vk, .int .u64 o.vb, .string o.vs] 46 (0, 0))) := by rw [eW]; exact heap_alloc_last _ _
  have AB : Hid (Below w.heap.size w AW) := by rw [eW]; exact (Below.refl _ _).alloc (Nat.le_refl _) _
  have Q0 : Hid (Bq B AW AW) := Bq.refl _ _
  have QA : Hid (Bq B w AW) := Bq.up AB.out (by omega)
  have H0 : Hid (Wb B g bs AW) := Wq.below h AB.out
  clear h hl hk hs
  go_enter Tryz.func63, Tryz.ntmps63
  go_upto_region 1 with fail
  rw [← eW]
  clear eW
  have X := Q0.out.k _ _ _ _ AX.out (by decide) (by decide)
  have i0 : AW.cell? ⟨w.heap.size, 0, none⟩ = some (.int .i64 o.cd) := by simp [World.cell?, X]
  have i1 : AW.cell? ⟨w.heap.size, 1, none⟩ = some (.int .i64 o.a) := by simp [World.cell?, X]
  have i2 : AW.cell? ⟨w.heap.size, 2, none⟩ = some (.int .i64 o.b) := by simp [World.cell?, X]
  have i3 : AW.cell? ⟨w.heap.size, 3, none⟩ = some (.int .i64 o.c) := by simp [World.cell?, X]
  have i4 : AW.cell? ⟨w.heap.size, 4, none⟩ = some (.int .i64 o.d) := by simp [World.cell?, X]
  have i5 : AW.cell? ⟨w.heap.size, 5, none⟩ = some (.int .i64 o.lo) := by simp [World.cell?, X]
  have i6 : AW.cell? ⟨w.heap.size, 6, none⟩ = some (.int .i64 o.hi) := by simp [World.cell?, X]
  clear X
  go_wp2_with (go_at_call 60; refine (R0.out _ (QA.out.trans Q0.out) H0.out).mono ?_)
  first | (rintro e w1 ⟨he, h1, hb1⟩; have he' := he) | (rintro e w1 he h1 hb1)
  subst he
  have H1 : Hid (Wb B g (bs ++ nsN [o.cd, o.a, o.b, o.c, o.d, o.lo, o.hi]) w1) := h1
  have Q1 : Hid (Bq B AW w1) := Q0.out.trans hb1
  clear h1 hb1 i0 i1 i2 i3 i4 i5 i6
  have X := Q1.out.k _ _ _ _ AX.out (by decide) (by decide)
  have i7 : w1.cell? ⟨w.heap.size, 7, none⟩ = some (.int .u8 o.vk) := by simp [World.cell?, X]
  have i8 : w1.cell? ⟨w.heap.size, 8, none⟩ = some (.int .u64 o.vb) := by simp [World.cell?, X]
  have i9 : w1.cell? ⟨w.heap.size, 9, none⟩ = some (.string o.vs) := by simp [World.cell?, X]
  clear X
  go_wp2_with (go_at_call 61; refine (R1.out _ (QA.out.trans Q1.out) H1.out).mono ?_)
  first | (rintro e w2 ⟨he, h1, hb1⟩; have he' := he) | (rintro e w2 he h1 hb1)
  subst he
  have H2 : Hid (Wb B g (bs ++ obN o) w2) := h1
  have Q2 : Hid (Bq B AW w2) := Q1.out.trans hb1
  clear h1 hb1 i7 i8 i9
  go_wp2
  go_end0
  exact ⟨rfl, H2.out, QA.out.trans Q2.out⟩
set_option maxRecDepth 20000 in
set_option maxHeartbeats 4000000 in
theorem loopX (B g : Nat) (bs : List Nat) (l : LpR) (w : World) (h : Wb B g bs w) (hl : bs.length ≤ 6597069766656)  :
    Calls Tryz.prog 65 #[.pointer (some ⟨g, 0, none⟩), .agg #[.int .i64 l.hd, .int .i64 l.en, .int .i64 l.tm]] w fun e w' => e = .returned (.tuple #[]) ∧ Wb B g (bs ++ lbN l) w' ∧ Bq B w w' := by
  have HB := h.lt
  have R0 : Hid (∀ W, Bq B w W → Wb B g (bs) W → Calls Tryz.prog 60 #[.pointer (some ⟨g, 0, none⟩), .slice (some ⟨W.heap.size, 0, none⟩) 3 3] (W.alloc (.cells #[.int .i64 l.hd, .int .i64 l.en, .int .i64 l.tm] 3 (0, 0))) fun e w' => e = .returned (.tuple #[]) ∧ Wb B g (bs ++ lbN l) w' ∧ Bq B W w') := fun W hQ hW => by
    have q := numbersX B g (bs) [l.hd, l.en, l.tm] W.heap.size 3 (0, 0) (W.alloc (.cells #[.int .i64 l.hd, .int .i64 l.en, .int .i64 l.tm] 3 (0, 0))) (Wq.below hW ((Below.refl _ _).alloc (Nat.le_refl _) _)) (heap_alloc_last _ _) (by (repeat first | rw [List.length_append] | rw [nsN_len] | rw [nbN_len] | rw [tbN_len] | rw [vbN_len] | rw [List.length_cons] | rw [List.length_nil]); all_goals omega) (by simp)
    have z := hW.lt
    refine q.mono ?_
    rintro e w' ⟨he, h1, h2⟩
    exact ⟨he, by simpa only [lbN, List.append_assoc] using h1, (Bq.up ((Below.refl _ _).alloc (Nat.le_refl _) _) (by omega)).trans h2⟩
  obtain ⟨AW, eW⟩ : ∃ AW, AW = w.alloc (.cells #[.int .i64 l.hd, .int .i64 l.en, .int .i64 l.tm] 48 (0, 0)) := ⟨_, rfl⟩
  have AX : Hid (AW.heap[w.heap.size]? = some (.cells #[.int .i64 l.hd, .int .i64 l.en, .int .i64 l.tm] 48 (0, 0))) := by rw [eW]; exact heap_alloc_last _ _
  have AB : Hid (Below w.heap.size w AW) := by rw [eW]; exact (Below.refl _ _).alloc (Nat.le_refl _) _
  have Q0 : Hid (Bq B AW AW) := Bq.refl _ _
  have QA : Hid (Bq B w AW) := Bq.up AB.out (by omega)
  have H0 : Hid (Wb B g bs AW) := Wq.below h AB.out
  clear h hl 
  go_enter Tryz.func65, Tryz.ntmps65
  go_upto_region 1 with fail
  rw [← eW]
  clear eW
  have X := Q0.out.k _ _ _ _ AX.out (by decide) (by decide)
  have i0 : AW.cell? ⟨w.heap.size, 0, none⟩ = some (.int .i64 l.hd) := by simp [World.cell?, X]
  have i1 : AW.cell? ⟨w.heap.size, 1, none⟩ = some (.int .i64 l.en) := by simp [World.cell?, X]
  have i2 : AW.cell? ⟨w.heap.size, 2, none⟩ = some (.int .i64 l.tm) := by simp [World.cell?, X]
  clear X
  go_wp2_with (go_at_call 60; refine (R0.out _ (QA.out.trans Q0.out) H0.out).mono ?_)
  first | (rintro e w1 ⟨he, h1, hb1⟩; have he' := he) | (rintro e w1 he h1 hb1)
  subst he
  have H1 : Hid (Wb B g (bs ++ lbN l) w1) := h1
  have Q1 : Hid (Bq B AW w1) := Q0.out.trans hb1
  clear h1 hb1 i0 i1 i2
  go_wp2
  go_end0
  exact ⟨rfl, H1.out, QA.out.trans Q1.out⟩
end Go.Proofs.YtdcjngakmkgbmaaGreat
namespace Go.Proofs.YtdcjngakmkgbmaaGreat
set_option linter.unusedVariables false
open Go.RowKit
def lsN {α : Type} (f : α → List Nat) (l : List α) : List Nat := nbN l.length ++ l.flatMap f
theorem flat_le {α : Type} (f : α → List Nat) (c : Nat) (l : List α) (h : ∀ e ∈ l, (f e).length ≤ c) : (l.flatMap f).length ≤ l.length * c := by
  induction l with
  | nil => simp
  | cons a l ih =>
    rw [List.flatMap_cons, List.length_append, List.length_cons, Nat.add_mul, Nat.one_mul]
    have h1 := h a (by simp)
    have h2 := ih (fun e he => h e (by simp [he]))
    omega
set_option maxRecDepth 20000 in
set_option maxHeartbeats 4000000 in
theorem wlInt (B g : Nat) (bs : List Nat) (l : List Int) (x : Option Addr) (c : Nat) (w : World) {S : Nat → Prop} (h : Wb B g bs w) (hS : ∀ b, S b → b < B) (ha : RwF 1 (Is inC) S w x l) (ho : ∀ e ∈ l, True) (hl : bs.length + 8 + l.length * 8 ≤ 6597069766656) (hn : l.length ≤ 1048576) :
    Calls Tryz.prog 66 #[.pointer (some ⟨g, 0, none⟩), .slice x l.length c, .func (.func 57) #[.pointer (some ⟨g, 0, none⟩)] #[]] w fun e w' => e = .returned (.tuple #[]) ∧ Wb B g (bs ++ lsN nbN l) w' ∧ Bq B w w' := by
  have HB := h.lt
  have H : Hid (Wb B g bs w) := h
  have HA : Hid (∀ V, Bq B w V → RwF 1 (Is inC) S V x l) := fun V hV => ha.fr (fun q hq => hV.b.cell (hS _ hq))
  have HN : Hid (l.length ≤ 1048576) := hn
  have HS : Hid (∀ b, S b → b < B) := hS
  have OK : Hid (∀ e ∈ l, True) := ho
  have HC : ∀ k : Nat, ((l.take k).flatMap nbN).length ≤ l.length * 8 := fun k => Nat.le_trans (flat_le _ 8 (l.take k) (fun e he => by rw [nbN_len]; omega)) (Nat.mul_le_mul_right _ (List.length_take_le' k l))
  have HT : Hid (∀ k, (bs ++ nbN l.length ++ (l.take k).flatMap nbN).length ≤ 6597069766656) := fun k => by rw [List.length_append, List.length_append, nbN_len]; have := HC k; omega
  have N0 : Hid (∀ W, Wb B g bs W → Calls Tryz.prog 57 #[.pointer (some ⟨g, 0, none⟩), .int .i64 l.length] W fun e w' => e = .returned (.tuple #[]) ∧ Wb B g (bs ++ nbN l.length) w' ∧ Bq B W w') := fun W hW => numberX B g bs _ W hW (by omega)
  clear h hS ha ho hl hn HC
  have E0 : ∀ (args : Array Value) (W : World), (callFunc 57 args).run Tryz.prog W = .ok (.enter 57 args) W := fun _ _ => by kernel_rfl
  go_enter Tryz.func66, Tryz.ntmps66
  go_wp2_with (go_at_call 57; refine (N0.out _ H.out).mono ?_)
  first | (rintro e w1 ⟨he, h1, hb1⟩; have he' := he) | (rintro e w1 he h1 hb1)
  subst he
  have H1 : Hid (Wb B g (bs ++ nbN l.length) w1) := h1
  have B1 : Hid (Bq B w w1) := hb1
  clear h1 hb1 N0 H
  go_upto_region 2 with fail
  go_loopw [14] (fun i wr => ∃ k : Nat, k ≤ l.length ∧ i = .int .i64 k ∧ Wb B g (bs ++ nbN l.length ++ (l.take k).flatMap nbN) wr ∧ Bq B w wr) (fun i _ => l.length - (intOf i).toNat)
  case atStart => exact ⟨0, Nat.zero_le _, rfl, by rw [List.take_zero, List.flatMap_nil, List.append_nil]; exact H1.out, B1.out⟩
  case round =>
    obtain ⟨k, hk, rfl, hw, hb⟩ := hrel
    have HW : Hid (Wb B g (bs ++ nbN l.length ++ (l.take k).flatMap nbN) wr) := hw
    have HQ : Hid (Bq B w wr) := hb
    clear hw hb H1 B1
    by_cases hlt : k < l.length
    · obtain ⟨a, rfl⟩ := (HA.out wr HQ.out).some (by omega)
      obtain ⟨s, sv, se, sb, rfl, sk⟩ := (HA.out wr HQ.out).el k hlt
      have e0 := sk.c0
      rw [Nat.mul_one] at e0
      have SE : Hid (l[k]? = some s) := se
      have LT : Hid (k < l.length) := hlt
      have kl : (k : Int) < l.length := by omega
      have ek : wrap64 ((k : Int) + 1) = (k : Int) + 1 := by have := HN.out; unfold wrap64; omega
      have TK : Hid (bs ++ nbN l.length ++ (l.take (k + 1)).flatMap nbN = bs ++ nbN l.length ++ (l.take k).flatMap nbN ++ nbN s) := by show _ = _; rw [List.take_add_one, se, List.flatMap_append]; simp [List.append_assoc]
      have SO := OK.out s (List.mem_of_getElem? se)
      have R0 : Hid (Calls Tryz.prog 57 #[.pointer (some ⟨g, 0, none⟩), .int .i64 s] wr fun e w' => e = .returned (.tuple #[]) ∧ Wb B g (bs ++ nbN l.length ++ (l.take (k + 1)).flatMap nbN) w' ∧ Bq B wr w') := by
        rw [TK.out]
        have HT' := HT.out k
        have hW := HW.out
        generalize bs ++ nbN l.length ++ (l.take k).flatMap nbN = bz at *
        have V := wr
        exact numberX B g bz s wr hW (by omega)
      clear hlt se sk sb hk SO
      go_wp2_with fail
      refine (R0.out).mono ?_
      first | (rintro e w2 ⟨he, h1, hb1⟩; have he' := he) | (rintro e w2 he h1 hb1)
      subst he
      have H2 : Hid (Wb B g (bs ++ nbN l.length ++ (l.take (k + 1)).flatMap nbN) w2) := h1
      have Q2 : Hid (Bq B w w2) := HQ.out.trans hb1
      clear h1 hb1 R0 e0
      go_wp2
      try rw [ek]
      exact ⟨⟨k + 1, Nat.succ_le_of_lt LT.out, rfl, H2.out, Q2.out⟩, msrE LT.out⟩
    · have kl : ¬ (k : Int) < l.length := by omega
      have ek : k = l.length := by omega
      subst ek
      rw [List.take_length, List.append_assoc] at HW
      clear hlt hk
      go_wp2
      go_end0
      exact ⟨rfl, HW.out, HQ.out⟩
set_option maxRecDepth 20000 in
set_option maxHeartbeats 4000000 in
theorem wlLoop (B g : Nat) (bs : List Nat) (l : List LpR) (x : Option Addr) (c : Nat) (w : World) {S : Nat → Prop} (h : Wb B g bs w) (hS : ∀ b, S b → b < B) (ha : RwF 3 (Is lpC) S w x l) (ho : ∀ e ∈ l, LpOk e) (hl : bs.length + 8 + l.length * 24 ≤ 6597069766656) (hn : l.length ≤ 1048576) :
    Calls Tryz.prog 64 #[.pointer (some ⟨g, 0, none⟩), .slice x l.length c, .func (.func 65) #[.pointer (some ⟨g, 0, none⟩)] #[]] w fun e w' => e = .returned (.tuple #[]) ∧ Wb B g (bs ++ lsN lbN l) w' ∧ Bq B w w' := by
  have HB := h.lt
  have H : Hid (Wb B g bs w) := h
  have HA : Hid (∀ V, Bq B w V → RwF 3 (Is lpC) S V x l) := fun V hV => ha.fr (fun q hq => hV.b.cell (hS _ hq))
  have HN : Hid (l.length ≤ 1048576) := hn
  have HS : Hid (∀ b, S b → b < B) := hS
  have OK : Hid (∀ e ∈ l, LpOk e) := ho
  have HC : ∀ k : Nat, ((l.take k).flatMap lbN).length ≤ l.length * 24 := fun k => Nat.le_trans (flat_le _ 24 (l.take k) (fun e he => by rw [lbN_len]; omega)) (Nat.mul_le_mul_right _ (List.length_take_le' k l))
  have HT : Hid (∀ k, (bs ++ nbN l.length ++ (l.take k).flatMap lbN).length ≤ 6597069766656) := fun k => by rw [List.length_append, List.length_append, nbN_len]; have := HC k; omega
  have N0 : Hid (∀ W, Wb B g bs W → Calls Tryz.prog 57 #[.pointer (some ⟨g, 0, none⟩), .int .i64 l.length] W fun e w' => e = .returned (.tuple #[]) ∧ Wb B g (bs ++ nbN l.length) w' ∧ Bq B W w') := fun W hW => numberX B g bs _ W hW (by omega)
  clear h hS ha ho hl hn HC
  have E0 : ∀ (args : Array Value) (W : World), (callFunc 65 args).run Tryz.prog W = .ok (.enter 65 args) W := fun _ _ => by kernel_rfl
  go_enter Tryz.func64, Tryz.ntmps64
  go_wp2_with (go_at_call 57; refine (N0.out _ H.out).mono ?_)
  first | (rintro e w1 ⟨he, h1, hb1⟩; have he' := he) | (rintro e w1 he h1 hb1)
  subst he
  have H1 : Hid (Wb B g (bs ++ nbN l.length) w1) := h1
  have B1 : Hid (Bq B w w1) := hb1
  clear h1 hb1 N0 H
  go_upto_region 2 with fail
  go_loopw [14] (fun i wr => ∃ k : Nat, k ≤ l.length ∧ i = .int .i64 k ∧ Wb B g (bs ++ nbN l.length ++ (l.take k).flatMap lbN) wr ∧ Bq B w wr) (fun i _ => l.length - (intOf i).toNat)
  case atStart => exact ⟨0, Nat.zero_le _, rfl, by rw [List.take_zero, List.flatMap_nil, List.append_nil]; exact H1.out, B1.out⟩
  case round =>
    obtain ⟨k, hk, rfl, hw, hb⟩ := hrel
    have HW : Hid (Wb B g (bs ++ nbN l.length ++ (l.take k).flatMap lbN) wr) := hw
    have HQ : Hid (Bq B w wr) := hb
    clear hw hb H1 B1
    by_cases hlt : k < l.length
    · obtain ⟨a, rfl⟩ := (HA.out wr HQ.out).some (by omega)
      obtain ⟨s, sv, se, sb, rfl, sk⟩ := (HA.out wr HQ.out).el k hlt
      have e0 := sk.c0
      have e1 := sk.cp 0 _ rfl
      have e2 := sk.cp 1 _ rfl
      have SE : Hid (l[k]? = some s) := se
      have LT : Hid (k < l.length) := hlt
      have kl : (k : Int) < l.length := by omega
      have ek : wrap64 ((k : Int) + 1) = (k : Int) + 1 := by have := HN.out; unfold wrap64; omega
      have TK : Hid (bs ++ nbN l.length ++ (l.take (k + 1)).flatMap lbN = bs ++ nbN l.length ++ (l.take k).flatMap lbN ++ lbN s) := by show _ = _; rw [List.take_add_one, se, List.flatMap_append]; simp [List.append_assoc]
      have SO := OK.out s (List.mem_of_getElem? se)
      have za := block_lt_of_cell e0
      obtain ⟨AR, eR⟩ : ∃ AR, AR = wr.alloc (.cells #[.int .i64 s.hd, .int .i64 s.en, .int .i64 s.tm] 48 (0, 0)) := ⟨_, rfl⟩
      have RB : Hid (Below wr.heap.size wr AR) := by rw [eR]; exact (Below.refl _ _).alloc (Nat.le_refl _) _
      have RX : Hid (AR.heap[wr.heap.size]? = some (.cells #[.int .i64 s.hd, .int .i64 s.en, .int .i64 s.tm] 48 (0, 0))) := by rw [eR]; exact heap_alloc_last _ _
      have WR : Hid (Wb B g (bs ++ nbN l.length ++ (l.take k).flatMap lbN) AR) := Wq.below HW.out RB.out
      have QR : Hid (Bq B w AR) := HQ.out.trans (Bq.up RB.out (by have := HQ.out.b.size; omega))
      have R0 : Hid (Calls Tryz.prog 65 #[.pointer (some ⟨g, 0, none⟩), .agg #[.int .i64 s.hd, .int .i64 s.en, .int .i64 s.tm]] AR fun e w' => e = .returned (.tuple #[]) ∧ Wb B g (bs ++ nbN l.length ++ (l.take (k + 1)).flatMap lbN) w' ∧ Bq B AR w') := by
        rw [TK.out]
        have HT' := HT.out k
        have hW := WR.out
        generalize bs ++ nbN l.length ++ (l.take k).flatMap lbN = bz at *
        exact loopX B g bz s AR hW HT'
      clear hlt se sk sb hk SO
      go_upto_region 4 with fail
      rw [← eR]
      clear eR za e0 e1 e2
      have i0 : AR.cell? ⟨wr.heap.size, 0, none⟩ = some (.int .i64 s.hd) := by simp [World.cell?, RX.out]
      have i1 : AR.cell? ⟨wr.heap.size, 1, none⟩ = some (.int .i64 s.en) := by simp [World.cell?, RX.out]
      have i2 : AR.cell? ⟨wr.heap.size, 2, none⟩ = some (.int .i64 s.tm) := by simp [World.cell?, RX.out]
      go_wp2_with fail
      refine (R0.out).mono ?_
      first | (rintro e w2 ⟨he, h1, hb1⟩; have he' := he) | (rintro e w2 he h1 hb1)
      subst he
      have H2 : Hid (Wb B g (bs ++ nbN l.length ++ (l.take (k + 1)).flatMap lbN) w2) := h1
      have Q2 : Hid (Bq B w w2) := QR.out.trans hb1
      clear h1 hb1 R0 i0 i1 i2
      go_wp2
      try rw [ek]
      exact ⟨⟨k + 1, Nat.succ_le_of_lt LT.out, rfl, H2.out, Q2.out⟩, msrE LT.out⟩
    · have kl : ¬ (k : Int) < l.length := by omega
      have ek : k = l.length := by omega
      subst ek
      rw [List.take_length, List.append_assoc] at HW
      clear hlt hk
      go_wp2
      go_end0
      exact ⟨rfl, HW.out, HQ.out⟩
set_option maxRecDepth 20000 in
set_option maxHeartbeats 4000000 in
theorem wlOp (B g : Nat) (bs : List Nat) (l : List OpR) (x : Option Addr) (c : Nat) (w : World) {S : Nat → Prop} (h : Wb B g bs w) (hS : ∀ b, S b → b < B) (ha : RwF 10 (Is opC) S w x l) (ho : ∀ e ∈ l, OpOk e) (hl : bs.length + 8 + l.length * 4194377 ≤ 6597069766656) (hn : l.length ≤ 1048576) :
    Calls Tryz.prog 62 #[.pointer (some ⟨g, 0, none⟩), .slice x l.length c, .func (.func 63) #[.pointer (some ⟨g, 0, none⟩)] #[]] w fun e w' => e = .returned (.tuple #[]) ∧ Wb B g (bs ++ lsN obN l) w' ∧ Bq B w w' := by
  have HB := h.lt
  have H : Hid (Wb B g bs w) := h
  have HA : Hid (∀ V, Bq B w V → RwF 10 (Is opC) S V x l) := fun V hV => ha.fr (fun q hq => hV.b.cell (hS _ hq))
  have HN : Hid (l.length ≤ 1048576) := hn
  have HS : Hid (∀ b, S b → b < B) := hS
  have OK : Hid (∀ e ∈ l, OpOk e) := ho
  have HC : ∀ k : Nat, ((l.take k).flatMap obN).length ≤ l.length * 4194377 := fun k => Nat.le_trans (flat_le _ 4194377 (l.take k) (fun e he => by rw [obN_len]; have q1 : e.vs.size ≤ 4194304 := (ho e (List.mem_of_mem_take he)).2.2.2.2.2.2.2.2.2; omega)) (Nat.mul_le_mul_right _ (List.length_take_le' k l))
  have HT : Hid (∀ k, (bs ++ nbN l.length ++ (l.take k).flatMap obN).length ≤ 6597069766656) := fun k => by rw [List.length_append, List.length_append, nbN_len]; have := HC k; omega
  have N0 : Hid (∀ W, Wb B g bs W → Calls Tryz.prog 57 #[.pointer (some ⟨g, 0, none⟩), .int .i64 l.length] W fun e w' => e = .returned (.tuple #[]) ∧ Wb B g (bs ++ nbN l.length) w' ∧ Bq B W w') := fun W hW => numberX B g bs _ W hW (by omega)
  clear h hS ha ho hl hn HC
  have E0 : ∀ (args : Array Value) (W : World), (callFunc 63 args).run Tryz.prog W = .ok (.enter 63 args) W := fun _ _ => by kernel_rfl
  go_enter Tryz.func62, Tryz.ntmps62
  go_wp2_with (go_at_call 57; refine (N0.out _ H.out).mono ?_)
  first | (rintro e w1 ⟨he, h1, hb1⟩; have he' := he) | (rintro e w1 he h1 hb1)
  subst he
  have H1 : Hid (Wb B g (bs ++ nbN l.length) w1) := h1
  have B1 : Hid (Bq B w w1) := hb1
  clear h1 hb1 N0 H
  go_upto_region 2 with fail
  go_loopw [14] (fun i wr => ∃ k : Nat, k ≤ l.length ∧ i = .int .i64 k ∧ Wb B g (bs ++ nbN l.length ++ (l.take k).flatMap obN) wr ∧ Bq B w wr) (fun i _ => l.length - (intOf i).toNat)
  case atStart => exact ⟨0, Nat.zero_le _, rfl, by rw [List.take_zero, List.flatMap_nil, List.append_nil]; exact H1.out, B1.out⟩
  case round =>
    obtain ⟨k, hk, rfl, hw, hb⟩ := hrel
    have HW : Hid (Wb B g (bs ++ nbN l.length ++ (l.take k).flatMap obN) wr) := hw
    have HQ : Hid (Bq B w wr) := hb
    clear hw hb H1 B1
    by_cases hlt : k < l.length
    · obtain ⟨a, rfl⟩ := (HA.out wr HQ.out).some (by omega)
      obtain ⟨s, sv, se, sb, rfl, sk⟩ := (HA.out wr HQ.out).el k hlt
      have e0 := sk.c0
      have e1 := sk.cp 0 _ rfl
      have e2 := sk.cp 1 _ rfl
      have e3 := sk.cp 2 _ rfl
      have e4 := sk.cp 3 _ rfl
      have e5 := sk.cp 4 _ rfl
      have e6 := sk.cp 5 _ rfl
      have e7 := sk.cp 6 _ rfl
      have e8 := sk.cp 7 _ rfl
      have e9 := sk.cp 8 _ rfl
      have SE : Hid (l[k]? = some s) := se
      have LT : Hid (k < l.length) := hlt
      have kl : (k : Int) < l.length := by omega
      have ek : wrap64 ((k : Int) + 1) = (k : Int) + 1 := by have := HN.out; unfold wrap64; omega
      have TK : Hid (bs ++ nbN l.length ++ (l.take (k + 1)).flatMap obN = bs ++ nbN l.length ++ (l.take k).flatMap obN ++ obN s) := by show _ = _; rw [List.take_add_one, se, List.flatMap_append]; simp [List.append_assoc]
      have SO := OK.out s (List.mem_of_getElem? se)
      have za := block_lt_of_cell e0
      obtain ⟨AR, eR⟩ : ∃ AR, AR = wr.alloc (.cells #[.int .i64 s.cd, .int .i64 s.a, .int .i64 s.b, .int .i64 s.c, .int .i64 s.d, .int .i64 s.lo, .int .i64 s.hi, .int .u8 s.vk, .int .u64 s.vb, .string s.vs] 46 (0, 0)) := ⟨_, rfl⟩
      have RB : Hid (Below wr.heap.size wr AR) := by rw [eR]; exact (Below.refl _ _).alloc (Nat.le_refl _) _
      have RX : Hid (AR.heap[wr.heap.size]? = some (.cells #[.int .i64 s.cd, .int .i64 s.a, .int .i64 s.b, .int .i64 s.c, .int .i64 s.d, .int .i64 s.lo, .int .i64 s.hi, .int .u8 s.vk, .int .u64 s.vb, .string s.vs] 46 (0, 0))) := by rw [eR]; exact heap_alloc_last _ _
      have WR : Hid (Wb B g (bs ++ nbN l.length ++ (l.take k).flatMap obN) AR) := Wq.below HW.out RB.out
      have QR : Hid (Bq B w AR) := HQ.out.trans (Bq.up RB.out (by have := HQ.out.b.size; omega))
      have R0 : Hid (Calls Tryz.prog 63 #[.pointer (some ⟨g, 0, none⟩), OpV s] AR fun e w' => e = .returned (.tuple #[]) ∧ Wb B g (bs ++ nbN l.length ++ (l.take (k + 1)).flatMap obN) w' ∧ Bq B AR w') := by
        rw [TK.out]
        have HT' := HT.out k
        have hW := WR.out
        generalize bs ++ nbN l.length ++ (l.take k).flatMap obN = bz at *
        exact opX B g bz s AR hW HT' (wf_u8 SO.2.2.2.2.2.2.2.1) SO.2.2.2.2.2.2.2.2.2
      clear hlt se sk sb hk SO
      go_upto_region 4 with fail
      rw [← eR]
      clear eR za e0 e1 e2 e3 e4 e5 e6 e7 e8 e9
      have i0 : AR.cell? ⟨wr.heap.size, 0, none⟩ = some (.int .i64 s.cd) := by simp [World.cell?, RX.out]
      have i1 : AR.cell? ⟨wr.heap.size, 1, none⟩ = some (.int .i64 s.a) := by simp [World.cell?, RX.out]
      have i2 : AR.cell? ⟨wr.heap.size, 2, none⟩ = some (.int .i64 s.b) := by simp [World.cell?, RX.out]
      have i3 : AR.cell? ⟨wr.heap.size, 3, none⟩ = some (.int .i64 s.c) := by simp [World.cell?, RX.out]
      have i4 : AR.cell? ⟨wr.heap.size, 4, none⟩ = some (.int .i64 s.d) := by simp [World.cell?, RX.out]
      have i5 : AR.cell? ⟨wr.heap.size, 5, none⟩ = some (.int .i64 s.lo) := by simp [World.cell?, RX.out]
      have i6 : AR.cell? ⟨wr.heap.size, 6, none⟩ = some (.int .i64 s.hi) := by simp [World.cell?, RX.out]
      have i7 : AR.cell? ⟨wr.heap.size, 7, none⟩ = some (.int .u8 s.vk) := by simp [World.cell?, RX.out]
      have i8 : AR.cell? ⟨wr.heap.size, 8, none⟩ = some (.int .u64 s.vb) := by simp [World.cell?, RX.out]
      have i9 : AR.cell? ⟨wr.heap.size, 9, none⟩ = some (.string s.vs) := by simp [World.cell?, RX.out]
      go_wp2_with fail
      refine (R0.out).mono ?_
      first | (rintro e w2 ⟨he, h1, hb1⟩; have he' := he) | (rintro e w2 he h1 hb1)
      subst he
      have H2 : Hid (Wb B g (bs ++ nbN l.length ++ (l.take (k + 1)).flatMap obN) w2) := h1
      have Q2 : Hid (Bq B w w2) := QR.out.trans hb1
      clear h1 hb1 R0 i0 i1 i2 i3 i4 i5 i6 i7 i8 i9
      go_wp2
      try rw [ek]
      exact ⟨⟨k + 1, Nat.succ_le_of_lt LT.out, rfl, H2.out, Q2.out⟩, msrE LT.out⟩
    · have kl : ¬ (k : Int) < l.length := by omega
      have ek : k = l.length := by omega
      subst ek
      rw [List.take_length, List.append_assoc] at HW
      clear hlt hk
      go_wp2
      go_end0
      exact ⟨rfl, HW.out, HQ.out⟩
set_option maxRecDepth 20000 in
set_option maxHeartbeats 4000000 in
theorem wlCell (B g : Nat) (bs : List Nat) (l : List CeR) (x : Option Addr) (c : Nat) (w : World) {S : Nat → Prop} (h : Wb B g bs w) (hS : ∀ b, S b → b < B) (ha : RwF 11 (Is ceC) S w x l) (ho : ∀ e ∈ l, CeOk e) (hl : bs.length + 8 + l.length * 8388661 ≤ 6597069766656) (hn : l.length ≤ 1048576) :
    Calls Tryz.prog 26 #[.pointer (some ⟨g, 0, none⟩), .slice x l.length c, .func (.func 27) #[.pointer (some ⟨g, 0, none⟩)] #[]] w fun e w' => e = .returned (.tuple #[]) ∧ Wb B g (bs ++ lsN cbN l) w' ∧ Bq B w w' := by
  have HB := h.lt
  have H : Hid (Wb B g bs w) := h
  have HA : Hid (∀ V, Bq B w V → RwF 11 (Is ceC) S V x l) := fun V hV => ha.fr (fun q hq => hV.b.cell (hS _ hq))
  have HN : Hid (l.length ≤ 1048576) := hn
  have HS : Hid (∀ b, S b → b < B) := hS
  have OK : Hid (∀ e ∈ l, CeOk e) := ho
  have HC : ∀ k : Nat, ((l.take k).flatMap cbN).length ≤ l.length * 8388661 := fun k => Nat.le_trans (flat_le _ 8388661 (l.take k) (fun e he => by rw [cbN_len]; have q := ho e (List.mem_of_mem_take he); have q1 : e.is.size ≤ 4194304 := q.2.2.2.2.2.2.1; have q2 : e.ad.size ≤ 4194304 := q.2.2.2.2.2.2.2.2; omega)) (Nat.mul_le_mul_right _ (List.length_take_le' k l))
  have HT : Hid (∀ k, (bs ++ nbN l.length ++ (l.take k).flatMap cbN).length ≤ 6597069766656) := fun k => by rw [List.length_append, List.length_append, nbN_len]; have := HC k; omega
  have N0 : Hid (∀ W, Wb B g bs W → Calls Tryz.prog 57 #[.pointer (some ⟨g, 0, none⟩), .int .i64 l.length] W fun e w' => e = .returned (.tuple #[]) ∧ Wb B g (bs ++ nbN l.length) w' ∧ Bq B W w') := fun W hW => numberX B g bs _ W hW (by omega)
  clear h hS ha ho hl hn HC
  have E0 : ∀ (args : Array Value) (W : World), (callFunc 27 args).run Tryz.prog W = .ok (.enter 27 args) W := fun _ _ => by kernel_rfl
  go_enter Tryz.func26, Tryz.ntmps26
  go_wp2_with (go_at_call 57; refine (N0.out _ H.out).mono ?_)
  first | (rintro e w1 ⟨he, h1, hb1⟩; have he' := he) | (rintro e w1 he h1 hb1)
  subst he
  have H1 : Hid (Wb B g (bs ++ nbN l.length) w1) := h1
  have B1 : Hid (Bq B w w1) := hb1
  clear h1 hb1 N0 H
  go_upto_region 2 with fail
  go_loopw [14] (fun i wr => ∃ k : Nat, k ≤ l.length ∧ i = .int .i64 k ∧ Wb B g (bs ++ nbN l.length ++ (l.take k).flatMap cbN) wr ∧ Bq B w wr) (fun i _ => l.length - (intOf i).toNat)
  case atStart => exact ⟨0, Nat.zero_le _, rfl, by rw [List.take_zero, List.flatMap_nil, List.append_nil]; exact H1.out, B1.out⟩
  case round =>
    obtain ⟨k, hk, rfl, hw, hb⟩ := hrel
    have HW : Hid (Wb B g (bs ++ nbN l.length ++ (l.take k).flatMap cbN) wr) := hw
    have HQ : Hid (Bq B w wr) := hb
    clear hw hb H1 B1
    by_cases hlt : k < l.length
    · obtain ⟨a, rfl⟩ := (HA.out wr HQ.out).some (by omega)
      obtain ⟨s, sv, se, sb, rfl, sk⟩ := (HA.out wr HQ.out).el k hlt
      have e0 := sk.c0
      have e1 := sk.cp 0 _ rfl
      have e2 := sk.cp 1 _ rfl
      have e3 := sk.cp 2 _ rfl
      have e4 := sk.cp 3 _ rfl
      have e5 := sk.cp 4 _ rfl
      have e6 := sk.cp 5 _ rfl
      have e7 := sk.cp 6 _ rfl
      have e8 := sk.cp 7 _ rfl
      have e9 := sk.cp 8 _ rfl
      have e10 := sk.cp 9 _ rfl
      have SE : Hid (l[k]? = some s) := se
      have LT : Hid (k < l.length) := hlt
      have kl : (k : Int) < l.length := by omega
      have ek : wrap64 ((k : Int) + 1) = (k : Int) + 1 := by have := HN.out; unfold wrap64; omega
      have TK : Hid (bs ++ nbN l.length ++ (l.take (k + 1)).flatMap cbN = bs ++ nbN l.length ++ (l.take k).flatMap cbN ++ cbN s) := by show _ = _; rw [List.take_add_one, se, List.flatMap_append]; simp [List.append_assoc]
      have SO := OK.out s (List.mem_of_getElem? se)
      have za := block_lt_of_cell e0
      obtain ⟨AR, eR⟩ : ∃ AR, AR = wr.alloc (.cells #[.int .u8 s.kd, .bool s.sb, .int .i64 s.lo, .int .i64 s.hi, .int .i64 s.mx, .int .u8 s.ik, .int .u64 s.ib, .string s.is, .bool s.kp, .int .i64 s.dr, .string s.ad] 40 (0, 0)) := ⟨_, rfl⟩
      have RB : Hid (Below wr.heap.size wr AR) := by rw [eR]; exact (Below.refl _ _).alloc (Nat.le_refl _) _
      have RX : Hid (AR.heap[wr.heap.size]? = some (.cells #[.int .u8 s.kd, .bool s.sb, .int .i64 s.lo, .int .i64 s.hi, .int .i64 s.mx, .int .u8 s.ik, .int .u64 s.ib, .string s.is, .bool s.kp, .int .i64 s.dr, .string s.ad] 40 (0, 0))) := by rw [eR]; exact heap_alloc_last _ _
      have WR : Hid (Wb B g (bs ++ nbN l.length ++ (l.take k).flatMap cbN) AR) := Wq.below HW.out RB.out
      have QR : Hid (Bq B w AR) := HQ.out.trans (Bq.up RB.out (by have := HQ.out.b.size; omega))
      have R0 : Hid (Calls Tryz.prog 27 #[.pointer (some ⟨g, 0, none⟩), CeV s] AR fun e w' => e = .returned (.tuple #[]) ∧ Wb B g (bs ++ nbN l.length ++ (l.take (k + 1)).flatMap cbN) w' ∧ Bq B AR w') := by
        rw [TK.out]
        have HT' := HT.out k
        have hW := WR.out
        generalize bs ++ nbN l.length ++ (l.take k).flatMap cbN = bz at *
        exact cellX B g bz s AR hW HT' (wf_u8 SO.1) (wf_u8 SO.2.2.2.2.1) SO.2.2.2.2.2.2.1 SO.2.2.2.2.2.2.2.2
      clear hlt se sk sb hk SO
      go_upto_region 4 with fail
      rw [← eR]
      clear eR za e0 e1 e2 e3 e4 e5 e6 e7 e8 e9 e10
      have i0 : AR.cell? ⟨wr.heap.size, 0, none⟩ = some (.int .u8 s.kd) := by simp [World.cell?, RX.out]
      have i1 : AR.cell? ⟨wr.heap.size, 1, none⟩ = some (.bool s.sb) := by simp [World.cell?, RX.out]
      have i2 : AR.cell? ⟨wr.heap.size, 2, none⟩ = some (.int .i64 s.lo) := by simp [World.cell?, RX.out]
      have i3 : AR.cell? ⟨wr.heap.size, 3, none⟩ = some (.int .i64 s.hi) := by simp [World.cell?, RX.out]
      have i4 : AR.cell? ⟨wr.heap.size, 4, none⟩ = some (.int .i64 s.mx) := by simp [World.cell?, RX.out]
      have i5 : AR.cell? ⟨wr.heap.size, 5, none⟩ = some (.int .u8 s.ik) := by simp [World.cell?, RX.out]
      have i6 : AR.cell? ⟨wr.heap.size, 6, none⟩ = some (.int .u64 s.ib) := by simp [World.cell?, RX.out]
      have i7 : AR.cell? ⟨wr.heap.size, 7, none⟩ = some (.string s.is) := by simp [World.cell?, RX.out]
      have i8 : AR.cell? ⟨wr.heap.size, 8, none⟩ = some (.bool s.kp) := by simp [World.cell?, RX.out]
      have i9 : AR.cell? ⟨wr.heap.size, 9, none⟩ = some (.int .i64 s.dr) := by simp [World.cell?, RX.out]
      have i10 : AR.cell? ⟨wr.heap.size, 10, none⟩ = some (.string s.ad) := by simp [World.cell?, RX.out]
      go_wp2_with fail
      refine (R0.out).mono ?_
      first | (rintro e w2 ⟨he, h1, hb1⟩; have he' := he) | (rintro e w2 he h1 hb1)
      subst he
      have H2 : Hid (Wb B g (bs ++ nbN l.length ++ (l.take (k + 1)).flatMap cbN) w2) := h1
      have Q2 : Hid (Bq B w w2) := QR.out.trans hb1
      clear h1 hb1 R0 i0 i1 i2 i3 i4 i5 i6 i7 i8 i9 i10
      go_wp2
      try rw [ek]
      exact ⟨⟨k + 1, Nat.succ_le_of_lt LT.out, rfl, H2.out, Q2.out⟩, msrE LT.out⟩
    · have kl : ¬ (k : Int) < l.length := by omega
      have ek : k = l.length := by omega
      subst ek
      rw [List.take_length, List.append_assoc] at HW
      clear hlt hk
      go_wp2
      go_end0
      exact ⟨rfl, HW.out, HQ.out⟩
end Go.Proofs.YtdcjngakmkgbmaaGreat
