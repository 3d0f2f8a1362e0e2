/- image: may an instruction be; no statement of the seat is proved here. -/
import Derived.Test.YtkickdmomompjaaGreatCkIK
import Derived.Lib.Builder
import Derived.Lib.AppendStr
import Derived.Laws.CopyOwn
import Derived.Maps.AppendAt
import Derived.Test.YtkickdmomompjaaGreatKoA1
import Derived.Test.YtkickdmomompjaaGreatCkHK
import Derived.Test.YtkickdmomompjaaGreatKoA9
namespace Go.Proofs.YtkickdmomompjaaGreat
set_option linter.unusedVariables false
open Go.RowKit
/-- Are these bytes? -/
def U8s (bs : List Value) : Prop := ∀ v ∈ bs, ∃ n, v = .int .u8 n
theorem U8s.app {a b : List Value} (h : U8s a) (k : U8s b) : U8s (a ++ b) := fun v hv => by rcases List.mem_append.1 hv with q | q; exact h v q; exact k v q
theorem U8s.str (s : ByteArray) : U8s (Lib.strCells s) := fun v hv => by
  unfold Lib.strCells at hv
  obtain ⟨b, _, rfl⟩ := List.mem_map.1 hv
  exact ⟨_, rfl⟩
/-- A writer in a block of its own, which has so many bytes. -/
def Wq (B g : Nat) (bs : List Value) (V : World) : Prop := B ≤ g ∧ U8s bs ∧ ∃ v, V.heap[g]? = some (.cells #[v] 40 (0, 0)) ∧ V.ownsRow B 5 1 v bs.length bs ∧ v.ownBlock ≠ some g
theorem u8_info : ∃ i, Tryz.prog.info? 5 = some i ∧ i.zero = some (.int .u8 0) ∧ i.size = 1 ∧ i.bytes = 1 := by
  obtain ⟨i, hi, hz⟩ := Option.map_eq_some_iff.1 (show (Tryz.prog.info? 5).map (fun i => (i.zero, i.size, i.bytes)) = some (some (.int .u8 0), 1, 1) by kernel_rfl)
  simp only [Prod.mk.injEq] at hz
  exact ⟨i, hi, hz.1, hz.2.1, hz.2.2⟩
theorem Wq.put {B g : Nat} {v v' : Value} {bs' : List Value} {V : World} (hB : B ≤ g) (hb : V.heap[g]? = some (.cells #[v] 40 (0, 0))) (hown : V.ownsRow B 5 1 v' bs'.length bs') (hu : U8s bs') : Wq B g bs' (V.setCell ⟨g, 0, none⟩ v') := by
  have hne : v'.ownBlock ≠ some g := Lib.ownBlock_ne hown hb (by decide)
  refine ⟨hB, hu, v', ?_, ?_, hne⟩
  · simp [World.setCell, Array.getElem?_modify, hb]
  · exact hown.kept (row := some g) ⟨rfl, rfl, rfl, by simp [World.setCell], fun k _ hk => Below.heap_setCell _ _ _ _ (fun e => hk (by simp [e]))⟩ (Or.inr hne)
theorem Wq.shape {B g : Nat} {bs : List Value} {V : World} (h : Wq B g bs V) : ∃ x n c, V.heap[g]? = some (.cells #[.slice x n c] 40 (0, 0)) ∧ V.ownsRow B 5 1 (.slice x n c) bs.length bs := by
  obtain ⟨_, _, v, h1, h2, _⟩ := h
  rcases h2.2 with ⟨rfl, h0⟩ | ⟨k, cap, cur, rfl, hx⟩
  · exact ⟨_, _, _, h1, h2⟩
  · exact ⟨_, _, _, h1, h2⟩
theorem Wq.below {B g : Nat} {bs : List Value} {V V' : World} (h : Wq B g bs V) (hb : Below V.heap.size V V') : Wq B g bs V' := by
  obtain ⟨hB, hu, v, h1, h2, h3⟩ := h
  exact ⟨hB, hu, v, (hb.block _ (blk_in h1)).trans h1, h2.kept (row := none) ⟨hb.os, hb.tape, hb.output, hb.size, fun k hk _ => hb.block k hk⟩ (by rcases h : v.ownBlock with _ | q <;> simp), h3⟩
theorem Wq.lt {B g : Nat} {bs : List Value} {V : World} (h : Wq B g bs V) : B ≤ g ∧ g < V.heap.size := ⟨h.1, by obtain ⟨_, _, v, h1, _⟩ := h; exact blk_in h1⟩
theorem Wq.u8 {B g : Nat} {bs : List Value} {V : World} (h : Wq B g bs V) : U8s bs := h.2.1
/-- Blocks of other types than bytes' and the writer's stay. -/
def KpT (w w' : World) : Prop := ∀ (k : Nat) cs T fr, w.heap[k]? = some (.cells cs T fr) → T ≠ 5 → T ≠ 40 → w'.heap[k]? = some (.cells cs T fr)
/-- What is below B stays, and blocks of other types do. -/
structure Bq (B : Nat) (w w' : World) : Prop where
  b : Below B w w'
  k : KpT w w'
theorem Bq.refl (B : Nat) (w : World) : Bq B w w := ⟨Below.refl _ _, fun _ _ _ _ h _ _ => h⟩
theorem Bq.trans {B : Nat} {a b c : World} (h : Bq B a b) (k : Bq B b c) : Bq B a c := ⟨h.b.trans k.b, fun n cs T fr q1 q2 q3 => k.k n cs T fr (h.k n cs T fr q1 q2 q3) q2 q3⟩
theorem Bq.up {B : Nat} {a b : World} (h : Below a.heap.size a b) (hB : B ≤ a.heap.size) : Bq B a b := ⟨h.mono hB, fun n cs T fr q1 _ _ => (h.block n (blk_in q1)).trans q1⟩
theorem Bq.grown {B : Nat} {a b c : World} {v : Value} {n : Nat} {xs : List Value} (h : Bq B a b) (ho : b.ownsRow B 5 1 v n xs) (hg : b.grownBy c v.ownBlock) (hB : B ≤ b.heap.size) : Bq B a c :=
  h.trans ⟨(Below.refl B b).grown hg hB (fun k hk => (ho.lt k hk).1), fun k cs T fr q1 q2 q3 => by
    rw [hg.block k (blk_in q1) (fun e => Lib.ownBlock_ne ho q1 q2 e.symm)]
    exact q1⟩
theorem Bq.set {B g : Nat} {a b : World} {cs : Array Value} (h : Bq B a b) (hg : b.heap[g]? = some (.cells cs 40 (0, 0))) (hB : B ≤ g) (j : Nat) (v : Value) : Bq B a (b.setCell ⟨g, j, none⟩ v) :=
  h.trans ⟨(Below.refl B b).setCell (p := ⟨g, j, none⟩) hB _, fun k cs T fr q1 q2 q3 => by
    have hne : k ≠ g := fun e => by rw [e, hg] at q1; cases q1; exact q3 rfl
    rw [Below.heap_setCell _ _ _ _ hne]
    exact q1⟩
set_option maxRecDepth 20000 in
set_option maxHeartbeats 4000000 in
theorem raw_of (B g : Nat) (bs : List Value) (b : Int) (w : World) (h : Wq B g bs w) (hl : bs.length ≤ 70368744177664) :
    Calls Tryz.prog 48 #[.pointer (some ⟨g, 0, none⟩), .int .u8 b] w fun e w' => e = .returned (.tuple #[]) ∧ Wq B g (bs ++ [.int .u8 b]) w' ∧ Bq B w w' := by
  obtain ⟨i0, hi, hz0, hz1, hz2⟩ := u8_info
  have hB := h.lt
  have hU := h.u8
  obtain ⟨x, n, c, hg, hown⟩ := h.shape
  have c0 : w.cell? ⟨g, 0, none⟩ = some (.slice x n c) := by simp [World.cell?, hg]
  have HG : Hid (w.heap[g]? = some (.cells #[.slice x n c] 40 (0, 0))) := hg
  have HO : Hid (w.ownsRow B 5 1 (.slice x n c) bs.length bs) := hown
  have NE : Hid ((Value.slice x n c).ownBlock ≠ some g) := Lib.ownBlock_ne hown hg (by decide)
  clear h hg hown
  have GA : Hid (∀ X : Obj, Below w.heap.size w (w.alloc X)) := fun X => (Below.refl _ _).alloc (Nat.le_refl _) _
  have OA : Hid (∀ X : Obj, (w.alloc X).ownsRow B 5 1 (.slice x n c) bs.length bs) := fun X => HO.out.kept (row := none) ⟨rfl, rfl, rfl, (GA.out X).size, fun k hk _ => (GA.out X).block k hk⟩ (by rcases h : (Value.slice x n c).ownBlock with _ | q <;> simp)
  go_enter Tryz.func48, Tryz.ntmps48
  go_wp2_with (at_builtin; refine wpList_append_own_at _ rfl _ _ 27 rfl B 5 i0 _ 1 1 Tryz.underlying27 hi hz0 hz1 hz2 rfl (by decide) _ bs.length bs rfl (OA.out _) ⟨w.heap.size, 0, none⟩ 1 1 [.int .u8 b] rfl rfl (cell_one_new _ _ _) (by simp [Value.oneCell']) (by unfold maxLen; omega) (by omega) (by simp; omega) ?_)
  intro v' w1 hown' hgrow hnil hat'
  have O1 : Hid (w1.ownsRow B 5 1 v' (bs ++ [Value.int .u8 b]).length (bs ++ [Value.int .u8 b])) := by show World.ownsRow _ _ _ _ _ _ _; rw [List.length_append]; exact hown'
  have hlt : g < (w.alloc (.cells #[.int .u8 b] 5)).heap.size := by simp; omega
  have G1 : Hid (w1.heap[g]? = some (.cells #[.slice x n c] 40 (0, 0))) := by
    rw [hgrow.block g hlt (fun e => NE.out e.symm), Below.heap_alloc _ _ _ hB.2]
    exact HG.out
  have B1 : Hid (Bq B w w1) := (Bq.up (GA.out _) (by omega)).grown (OA.out _) hgrow (by simp; omega)
  have d0 : w1.cell? ⟨g, 0, none⟩ = some (.slice x n c) := by simp [World.cell?, G1.out]
  have d1 : w1.frozen? ⟨g, 0, none⟩ = false := by simp [World.frozen?, G1.out]
  obtain ⟨y, k, q, rfl⟩ : ∃ y k q, v' = .slice y k q := by
    rcases hown'.2 with ⟨hv, _⟩ | ⟨_, cap, cur, hv, _⟩
    · exact ⟨_, _, _, hv⟩
    · exact ⟨_, _, _, hv⟩
  clear hown' hgrow hnil hat' hlt c0 GA OA
  go_wp2
  go_end0
  exact ⟨rfl, Wq.put hB.1 G1.out O1.out (hU.app (fun v hv => ⟨b, by simpa using hv⟩)), B1.out.set G1.out hB.1 _ _⟩
set_option maxRecDepth 20000 in
set_option maxHeartbeats 4000000 in
theorem number_of (B g : Nat) (bs : List Value) (v : Int) (w : World) (h : Wq B g bs w) (hl : bs.length ≤ 1000) :
    Calls Tryz.prog 47 #[.pointer (some ⟨g, 0, none⟩), .int .i64 v] w fun e w' => e = .returned (.tuple #[]) ∧ (∃ l : List Value, l.length = 8 ∧ Wq B g (bs ++ l) w') ∧ Bq B w w' := by
  have H : Hid (Wq B g bs w) := h
  have HL : Hid (bs.length ≤ 1000) := hl
  clear h hl
  go_enter Tryz.func47, Tryz.ntmps47
  go_upto_region 1 with fail
  go_loopw [5] (fun i wr => ∃ (k : Nat) (l : List Value), k ≤ 8 ∧ i = .int .i64 k ∧ l.length = k ∧ Wq B g (bs ++ l) wr ∧ Bq B w wr) (fun i _ => 8 - (intOf i).toNat)
  case atStart => exact ⟨0, [], Nat.zero_le _, rfl, rfl, by rw [List.append_nil]; exact H.out, Bq.refl _ _⟩
  case round =>
    obtain ⟨k, l, hk, rfl, hll, hw, hb⟩ := hrel
    have HW : Hid (Wq B g (bs ++ l) wr) := hw
    have HB : Hid (Bq B w wr) := hb
    have LL : Hid (l.length = k) := hll
    clear hw hb hll
    by_cases hlt : k < 8
    · have kl : (k : Int) < 8 := by omega
      have LT : Hid (k < 8) := hlt
      have ek : wrap64 ((k : Int) + 1) = (k : Int) + 1 := by unfold wrap64; omega
      have e8 : wrap64 (8 * (k : Int)) = 8 * (k : Int) := by unfold wrap64; omega
      have p8 : ¬ (8 * (k : Int)) < 0 := by omega
      have q8 : (0 : Int) ≤ 8 * (k : Int) := by omega
      clear hlt
      go_wp2_with (go_at_call 48; refine (raw_of B g (bs ++ l) _ _ HW.out (by rw [List.length_append, LL.out]; have := HL.out; omega)).mono ?_)
      intro e w1 he h1 hb1
      subst he
      have H1 : Hid (Wq B g _ w1) := h1
      have B1 : Hid (Bq B w w1) := HB.out.trans hb1
      clear h1 hb1
      go_wp2
      try rw [ek]
      exact ⟨⟨k + 1, l ++ [_], Nat.succ_le_of_lt LT.out, rfl, (by rw [List.length_append, LL.out]; rfl), (by first | exact H1.out | (rw [← List.append_assoc]; exact H1.out)), B1.out⟩, msr LT.out⟩
    · have kl : ¬ (k : Int) < 8 := by omega
      have ek : k = 8 := by omega
      subst ek
      clear hlt hk
      go_wp2
      go_end0
      exact ⟨rfl, ⟨l, LL.out, HW.out⟩, HB.out⟩
set_option maxRecDepth 20000 in
set_option maxHeartbeats 4000000 in
theorem text_of (B g : Nat) (bs : List Value) (s : ByteArray) (w : World) (h : Wq B g bs w) (hl : bs.length ≤ 900) (hs : s.size ≤ 100) :
    Calls Tryz.prog 25 #[.pointer (some ⟨g, 0, none⟩), .string s] w fun e w' => e = .returned (.tuple #[]) ∧ (∃ l : List Value, l.length = 8 ∧ Wq B g (bs ++ l ++ Lib.strCells s) w') ∧ Bq B w w' := by
  obtain ⟨i0, hi, hz0, hz1, hz2⟩ := u8_info
  have H : Hid (Wq B g bs w) := h
  have HB := h.lt
  have HL : Hid (bs.length ≤ 900) := hl
  have HS : Hid (s.size ≤ 100) := hs
  clear h hl hs
  go_enter Tryz.func25, Tryz.ntmps25
  go_wp2_with (go_at_call 47; refine (number_of B g bs _ _ H.out (by have := HL.out; omega)).mono ?_)
  first | (rintro e w1 ⟨he, ⟨l, hll, h1⟩, hb1⟩) | (rintro e w1 he ⟨⟨l, hll, h1⟩, hb1⟩) | (rintro e w1 he ⟨l, hll, h1⟩ hb1) | (rintro e w1 he l hll h1 hb1)
  subst he
  have LL : Hid (l.length = 8) := hll
  have B1 : Hid (Bq B w w1) := hb1
  have HB1 := h1.lt
  have HU1 := h1.u8
  obtain ⟨x, n, c, hg, hown⟩ := h1.shape
  have c0 : w1.cell? ⟨g, 0, none⟩ = some (.slice x n c) := by simp [World.cell?, hg]
  have HG : Hid (w1.heap[g]? = some (.cells #[.slice x n c] 40 (0, 0))) := hg
  have HO : Hid (w1.ownsRow B 5 1 (.slice x n c) (bs ++ l).length (bs ++ l)) := hown
  have NE : Hid ((Value.slice x n c).ownBlock ≠ some g) := Lib.ownBlock_ne hown hg (by decide)
  have SZ : Hid ((bs ++ l).length ≤ 1000) := by show _ ≤ _; rw [List.length_append, LL.out]; have := HL.out; omega
  clear h1 hg hown hb1 hll
  go_wp2_with (at_builtin; refine Lib.wpList_append_own_string _ rfl _ _ 27 9 rfl B 5 i0 Tryz.underlying27 Tryz.underlying9 hi hz0 hz1 hz2 _ _ _ rfl HO.out s rfl ?c3 ?c4 ?c5 ?_)
  case c3 => have := SZ.out; have := HS.out; unfold maxLen; omega
  case c4 => have := SZ.out; have := HS.out; omega
  case c5 => omega
  intro v' w2 hown' hgrow hnil
  have O1 : Hid (w2.ownsRow B 5 1 v' (bs ++ l ++ Lib.strCells s).length (bs ++ l ++ Lib.strCells s)) := by show World.ownsRow _ _ _ _ _ _ _; first | (rw [List.length_append, Lib.strCells_length]; exact hown') | (rw [List.length_append, List.length_append, Lib.strCells_length, List.append_assoc]; exact hown')
  have G1 : Hid (w2.heap[g]? = some (.cells #[.slice x n c] 40 (0, 0))) := by
    rw [hgrow.block g HB1.2 (fun e => NE.out e.symm)]
    exact HG.out
  have B2 : Hid (Bq B w w2) := B1.out.grown HO.out hgrow (by omega)
  have d0 : w2.cell? ⟨g, 0, none⟩ = some (.slice x n c) := by simp [World.cell?, G1.out]
  have d1 : w2.frozen? ⟨g, 0, none⟩ = false := by simp [World.frozen?, G1.out]
  obtain ⟨y, k, q, rfl⟩ : ∃ y k q, v' = .slice y k q := by
    rcases hown'.2 with ⟨hv, _⟩ | ⟨_, cap, cur, hv, _⟩
    · exact ⟨_, _, _, hv⟩
    · exact ⟨_, _, _, hv⟩
  clear hown' hgrow hnil c0
  go_wp2
  go_end0
  exact ⟨rfl, ⟨l, LL.out, Wq.put HB.1 G1.out O1.out (HU1.app (U8s.str s))⟩, B2.out.set G1.out HB.1 _ _⟩
end Go.Proofs.YtkickdmomompjaaGreat
namespace Go.Proofs.YtkickdmomompjaaGreat
set_option linter.unusedVariables false
open Go.RowKit
/-- Bytes as values. -/
def bvL (l : List Nat) : List Value := l.map fun b : Nat => Value.int .u8 (b : Int)
theorem bvL_app (a b : List Nat) : bvL (a ++ b) = bvL a ++ bvL b := by simp [bvL]
theorem bvL_len (a : List Nat) : (bvL a).length = a.length := by simp [bvL]
/-- The k lowest bytes of a number. -/
def nbK (n : Int) (k : Nat) : List Nat := (List.range k).map fun i => (n / 2 ^ (8 * i) % (256 : Int)).toNat
def nbN (n : Int) : List Nat := nbK n 8
theorem nbK_succ (n : Int) (k : Nat) : nbK n (k + 1) = nbK n k ++ [(n / 2 ^ (8 * k) % (256 : Int)).toNat] := by simp [nbK, List.range_succ]
theorem nbK_len (n : Int) (k : Nat) : (nbK n k).length = k := by simp [nbK]
theorem nbN_len (n : Int) : (nbN n).length = 8 := nbK_len n 8
theorem by_nat (x : Int) : ((x % (256 : Int)).toNat : Int) = x % 256 := Int.toNat_of_nonneg (Int.emod_nonneg _ (by decide))
/-- A text's bytes. -/
def sbN (s : ByteArray) : List Nat := s.data.toList.map (·.toNat)
theorem sbN_len (s : ByteArray) : (sbN s).length = s.size := by simp [sbN]
theorem sbN_str (s : ByteArray) : bvL (sbN s) = Lib.strCells s := by simp [bvL, sbN, Lib.strCells]
def tbN (s : ByteArray) : List Nat := nbN s.size ++ sbN s
theorem tbN_len (s : ByteArray) : (tbN s).length = 8 + s.size := by unfold tbN; rw [List.length_append, nbN_len, sbN_len]
def bbN (b : Bool) : Nat := if b then 1 else 0
def vbN (k b : Int) (s : ByteArray) : List Nat := [(k % (256 : Int)).toNat] ++ nbN (wrap64 b) ++ tbN s
theorem vbN_len (k b : Int) (s : ByteArray) : (vbN k b s).length = 17 + s.size := by unfold vbN; rw [List.length_append, List.length_append, nbN_len, tbN_len]; simp; omega
/-- A writer with so many bytes. -/
def Wb (B g : Nat) (l : List Nat) (V : World) : Prop := Wq B g (bvL l) V
set_option maxRecDepth 20000 in
set_option maxHeartbeats 4000000 in
theorem rawX (B g : Nat) (l : List Nat) (b : Nat) (v : Int) (hv : v = b) (w : World) (h : Wb B g l w) (hl : l.length ≤ 70368744177664) :
    Calls Tryz.prog 48 #[.pointer (some ⟨g, 0, none⟩), .int .u8 v] w fun e w' => e = .returned (.tuple #[]) ∧ Wb B g (l ++ [b]) w' ∧ Bq B w w' := by
  subst hv
  refine (raw_of B g (bvL l) b w h (by rw [bvL_len]; exact hl)).mono ?_
  rintro e w' ⟨he, h1, h2⟩
  exact ⟨he, by unfold Wb; rw [bvL_app]; exact h1, h2⟩
set_option maxRecDepth 20000 in
set_option maxHeartbeats 4000000 in
theorem flagX (B g : Nat) (l : List Nat) (b : Bool) (w : World) (h : Wb B g l w) (hl : l.length ≤ 70368744177664) :
    Calls Tryz.prog 49 #[.pointer (some ⟨g, 0, none⟩), .bool b] w fun e w' => e = .returned (.tuple #[]) ∧ Wb B g (l ++ [bbN b]) w' ∧ Bq B w w' := by
  have R0 : Hid (∀ W, Wb B g l W → Calls Tryz.prog 48 #[.pointer (some ⟨g, 0, none⟩), .int .u8 0] W fun e w' => e = .returned (.tuple #[]) ∧ Wb B g (l ++ [0]) w' ∧ Bq B W w') := fun W hW => rawX B g l 0 0 rfl W hW hl
  have R1 : Hid (∀ W, Wb B g l W → Calls Tryz.prog 48 #[.pointer (some ⟨g, 0, none⟩), .int .u8 1] W fun e w' => e = .returned (.tuple #[]) ∧ Wb B g (l ++ [1]) w' ∧ Bq B W w') := fun W hW => rawX B g l 1 1 rfl W hW hl
  have H : Hid (Wb B g l w) := h
  clear h hl
  cases b
  · go_enter Tryz.func49, Tryz.ntmps49
    go_wp2_with (go_at_call 48; refine (R0.out _ H.out).mono ?_)
    first | (rintro e w1 ⟨he, h1, hb1⟩; have he' := he) | (rintro e w1 he h1 hb1)
    subst he
    have H1 : Hid (Wb B g (l ++ [0]) w1) := h1
    have B1 : Hid (Bq B w w1) := hb1
    clear h1 hb1
    go_wp2
    go_end0
    exact ⟨rfl, H1.out, B1.out⟩
  · go_enter Tryz.func49, Tryz.ntmps49
    go_wp2_with (go_at_call 48; refine (R1.out _ H.out).mono ?_)
    first | (rintro e w1 ⟨he, h1, hb1⟩; have he' := he) | (rintro e w1 he h1 hb1)
    subst he
    have H1 : Hid (Wb B g (l ++ [1]) w1) := h1
    have B1 : Hid (Bq B w w1) := hb1
    clear h1 hb1
    go_wp2
    go_end0
    exact ⟨rfl, H1.out, B1.out⟩
set_option maxRecDepth 20000 in
set_option maxHeartbeats 4000000 in
theorem numberX (B g : Nat) (l : List Nat) (v : Int) (w : World) (h : Wb B g l w) (hl : l.length ≤ 35184372088832) :
    Calls Tryz.prog 47 #[.pointer (some ⟨g, 0, none⟩), .int .i64 v] w fun e w' => e = .returned (.tuple #[]) ∧ Wb B g (l ++ nbN v) w' ∧ Bq B w w' := by
  have H : Hid (Wb B g l w) := h
  have R0 : Hid (∀ (k : Nat) W, k < 8 → Wb B g (l ++ nbK v k) W → Calls Tryz.prog 48 #[.pointer (some ⟨g, 0, none⟩), .int .u8 (v / 2 ^ (8 * k) % 256)] W fun e w' => e = .returned (.tuple #[]) ∧ Wb B g (l ++ nbK v (k + 1)) w' ∧ Bq B W w') := fun k W hk hW => by
    rw [nbK_succ, ← List.append_assoc]
    exact rawX B g _ _ _ (by_nat _).symm W hW (by rw [List.length_append, nbK_len]; omega)
  clear h hl
  go_enter Tryz.func47, Tryz.ntmps47
  go_upto_region 1 with fail
  go_loopw [5] (fun i wr => ∃ k : Nat, k ≤ 8 ∧ i = .int .i64 k ∧ Wb B g (l ++ nbK v k) wr ∧ Bq B w wr) (fun i _ => 8 - (intOf i).toNat)
  case atStart => exact ⟨0, Nat.zero_le _, rfl, by rw [show nbK v 0 = [] from rfl, List.append_nil]; exact H.out, Bq.refl _ _⟩
  case round =>
    obtain ⟨k, hk, rfl, hw, hb⟩ := hrel
    have HW : Hid (Wb B g (l ++ nbK v k) wr) := hw
    have HB : Hid (Bq B w wr) := hb
    clear hw hb
    by_cases hlt : k < 8
    · have kl : (k : Int) < 8 := by omega
      have LT : Hid (k < 8) := hlt
      have ek : wrap64 ((k : Int) + 1) = (k : Int) + 1 := by unfold wrap64; omega
      have e8 : wrap64 (8 * (k : Int)) = 8 * (k : Int) := by unfold wrap64; omega
      have p8 : ¬ (8 * (k : Int)) < 0 := by omega
      have q8 : (0 : Int) ≤ 8 * (k : Int) := by omega
      clear hlt
      go_wp2_with (go_at_call 48; refine (R0.out k _ LT.out HW.out).mono ?_)
      first | (rintro e w1 ⟨he, h1, hb1⟩; have he' := he) | (rintro e w1 he h1 hb1)
      subst he
      have H1 : Hid (Wb B g (l ++ nbK v (k + 1)) w1) := h1
      have B1 : Hid (Bq B w w1) := HB.out.trans hb1
      clear h1 hb1
      go_wp2
      try rw [ek]
      exact ⟨⟨k + 1, Nat.succ_le_of_lt LT.out, rfl, H1.out, B1.out⟩, msr LT.out⟩
    · have kl : ¬ (k : Int) < 8 := by omega
      have ek : k = 8 := by omega
      subst ek
      clear hlt hk
      go_wp2
      go_end0
      exact ⟨rfl, HW.out, HB.out⟩
end Go.Proofs.YtkickdmomompjaaGreat
namespace Go.Proofs.YtkickdmomompjaaGreat
set_option linter.unusedVariables false
open Go.RowKit
/-- A slice of bytes that is one's own. -/
def Sb (B : Nat) (l : List Nat) (v : Value) (V : World) : Prop := V.ownsRow B 5 1 v l.length (bvL l)
theorem Sb.form {B : Nat} {l : List Nat} {v : Value} {V : World} (h : Sb B l v V) : ∃ x n c, v = .slice x n c := by
  rcases h.2 with ⟨hv, _⟩ | ⟨_, cap, cur, hv, _⟩
  · exact ⟨_, _, _, hv⟩
  · exact ⟨_, _, _, hv⟩
theorem Sb.below {B : Nat} {l : List Nat} {v : Value} {V V' : World} (h : Sb B l v V) (hb : Below V.heap.size V V') : Sb B l v V' :=
  World.ownsRow.kept (row := none) h ⟨hb.os, hb.tape, hb.output, hb.size, fun k hk _ => hb.block k hk⟩ (by rcases h : v.ownBlock with _ | q <;> simp)
theorem Sb.app {B : Nat} {l : List Nat} {v : Value} {V : World} {b : List Nat} {n : Nat} {xs : List Value} (h : V.ownsRow B 5 1 v n xs) (hn : n = l.length + b.length) (hx : xs = bvL l ++ bvL b) : Sb B (l ++ b) v V := by
  unfold Sb
  rw [bvL_app, List.length_append, ← hn, ← hx]
  exact h
theorem one_app {B : Nat} {l : List Nat} {v : Value} {V : World} {b : Nat} (h : V.ownsRow B 5 1 v (l.length + 1) (bvL l ++ [.int .u8 (b : Int)])) : Sb B (l ++ [b]) v V := Sb.app h rfl rfl
end Go.Proofs.YtkickdmomompjaaGreat
namespace Go.Proofs.YtkickdmomompjaaGreat
set_option linter.unusedVariables false
open Go.RowKit
def nsN (is : List Int) : List Nat := is.flatMap nbN
theorem nsN_len (is : List Int) : (nsN is).length = 8 * is.length := by
  unfold nsN
  induction is with
  | nil => rfl
  | cons a l ih => rw [List.flatMap_cons, List.length_append, ih, nbN_len, List.length_cons]; omega
theorem nsN_succ {is : List Int} {k : Nat} {v : Int} (h : is[k]? = some v) : nsN (is.take (k + 1)) = nsN (is.take k) ++ nbN v := by
  unfold nsN
  rw [List.take_add_one, h, List.flatMap_append]
  simp
theorem msrE {n k : Nat} (h : k < n) : n - (intOf (.int .i64 ((k : Int) + 1))).toNat < n - (intOf (.int .i64 (k : Int))).toNat := by
  show n - ((k : Int) + 1).toNat < n - (k : Int).toNat
  omega
set_option maxRecDepth 20000 in
set_option maxHeartbeats 4000000 in
theorem numbersX (B g : Nat) (l : List Nat) (is : List Int) (k c : Nat) (fr : Nat × Nat) (w : World) (h : Wb B g l w) (hb : w.heap[k]? = some (.cells (is.map (Value.int .i64)).toArray 3 fr)) (hl : l.length ≤ 17592186044416) (hi : is.length ≤ 1000) :
    Calls Tryz.prog 50 #[.pointer (some ⟨g, 0, none⟩), .slice (some ⟨k, 0, none⟩) is.length c] w fun e w' => e = .returned (.tuple #[]) ∧ Wb B g (l ++ nsN is) w' ∧ Bq B w w' := by
  have H : Hid (Wb B g l w) := h
  have HK : Hid (∀ V, Bq B w V → ∀ (j : Nat) v, is[j]? = some v → V.cell? ⟨k, j, none⟩ = some (.int .i64 v)) := fun V hV j v hj => by
    have e := hV.k k _ _ _ hb (by decide) (by decide)
    simp [World.cell?, e, hj]
  have HN : Hid (is.length ≤ 1000) := hi
  have R0 : Hid (∀ (j : Nat) v W, is[j]? = some v → Wb B g (l ++ nsN (is.take j)) W → Calls Tryz.prog 47 #[.pointer (some ⟨g, 0, none⟩), .int .i64 v] W fun e w' => e = .returned (.tuple #[]) ∧ Wb B g (l ++ nsN (is.take (j + 1))) w' ∧ Bq B W w') := fun j v W hj hW => by
    rw [nsN_succ hj, ← List.append_assoc]
    exact numberX B g _ v W hW (by rw [List.length_append, nsN_len, List.length_take]; omega)
  clear h hl hi hb
  go_enter Tryz.func50, Tryz.ntmps50
  go_upto_region 1 with fail
  go_loopw [8] (fun i wr => ∃ j : Nat, j ≤ is.length ∧ i = .int .i64 j ∧ Wb B g (l ++ nsN (is.take j)) wr ∧ Bq B w wr) (fun i _ => is.length - (intOf i).toNat)
  case atStart => exact ⟨0, Nat.zero_le _, rfl, by rw [List.take_zero, show nsN [] = [] from rfl, List.append_nil]; exact H.out, Bq.refl _ _⟩
  case round =>
    obtain ⟨j, hj, rfl, hw, hb⟩ := hrel
    have HW : Hid (Wb B g (l ++ nsN (is.take j)) wr) := hw
    have HB : Hid (Bq B w wr) := hb
    clear hw hb
    by_cases hlt : j < is.length
    · obtain ⟨v, hv⟩ : ∃ v, is[j]? = some v := ⟨_, List.getElem?_eq_getElem hlt⟩
      have HV : Hid (is[j]? = some v) := hv
      have f0 := HK.out wr HB.out j v hv
      have kl : (j : Int) < is.length := by omega
      have LT : Hid (j < is.length) := hlt
      have ek : wrap64 ((j : Int) + 1) = (j : Int) + 1 := by have := HN.out; unfold wrap64; omega
      clear hlt hv hj
      go_wp2_with (go_at_call 47; refine (R0.out j v _ HV.out HW.out).mono ?_)
      first | (rintro e w1 ⟨he, h1, hb1⟩; have he' := he) | (rintro e w1 he h1 hb1)
      subst he
      have H1 : Hid (Wb B g (l ++ nsN (is.take (j + 1))) w1) := h1
      have B1 : Hid (Bq B w w1) := HB.out.trans hb1
      clear h1 hb1 f0
      go_wp2
      try rw [ek]
      exact ⟨⟨j + 1, Nat.succ_le_of_lt LT.out, rfl, H1.out, B1.out⟩, msrE LT.out⟩
    · have kl : ¬ (j : Int) < is.length := by omega
      have ek : j = is.length := by omega
      subst ek
      rw [List.take_length] at HW
      clear hlt hj
      go_wp2
      go_end0
      exact ⟨rfl, HW.out, HB.out⟩
set_option maxRecDepth 20000 in
set_option maxHeartbeats 4000000 in
theorem textX (B g : Nat) (bs : List Nat) (s : ByteArray) (w : World) (h : Wb B g bs w) (hl : bs.length ≤ 17592186044416) (hs : s.size ≤ 4194304) :
    Calls Tryz.prog 25 #[.pointer (some ⟨g, 0, none⟩), .string s] w fun e w' => e = .returned (.tuple #[]) ∧ Wb B g (bs ++ tbN s) w' ∧ Bq B w w' := by
  obtain ⟨i0, hi, hz0, hz1, hz2⟩ := u8_info
  have HB := h.lt
  have N0 : Hid (∀ W, Wb B g bs W → Calls Tryz.prog 47 #[.pointer (some ⟨g, 0, none⟩), .int .i64 s.size] W fun e w' => e = .returned (.tuple #[]) ∧ Wb B g (bs ++ nbN s.size) w' ∧ Bq B W w') := fun W hW => numberX B g bs _ W hW (by omega)
  have H : Hid (Wb B g bs w) := h
  have HL : Hid (bs.length ≤ 17592186044416) := hl
  have HS : Hid (s.size ≤ 4194304) := hs
  clear h hl hs
  go_enter Tryz.func25, Tryz.ntmps25
  go_wp2_with (go_at_call 47; refine (N0.out _ H.out).mono ?_)
  first | (rintro e w1 ⟨he, h1, hb1⟩; have he' := he) | (rintro e w1 he h1 hb1)
  subst he
  have B1 : Hid (Bq B w w1) := hb1
  have HB1 := h1.lt
  have HU1 := h1.u8
  obtain ⟨x, n, c, hg, hown⟩ := h1.shape
  have c0 : w1.cell? ⟨g, 0, none⟩ = some (.slice x n c) := by simp [World.cell?, hg]
  have HG : Hid (w1.heap[g]? = some (.cells #[.slice x n c] 40 (0, 0))) := hg
  have HO : Hid (w1.ownsRow B 5 1 (.slice x n c) (bvL (bs ++ nbN s.size)).length (bvL (bs ++ nbN s.size))) := hown
  have NE : Hid ((Value.slice x n c).ownBlock ≠ some g) := Lib.ownBlock_ne hown hg (by decide)
  have SZ : Hid ((bvL (bs ++ nbN s.size)).length ≤ 17592186044424) := by show _ ≤ _; rw [bvL_len, List.length_append, nbN_len]; have := HL.out; omega
  have ET : Hid (bvL (bs ++ tbN s) = bvL (bs ++ nbN s.size) ++ Lib.strCells s) := by show _ = _; rw [← sbN_str, ← bvL_app]; unfold tbN; rw [List.append_assoc]
  generalize bvL (bs ++ nbN s.size) = L1 at *
  clear h1 hg hown hb1 N0
  go_wp2_with (at_builtin; refine Lib.wpList_append_own_string _ rfl _ _ 27 9 rfl B 5 i0 Tryz.underlying27 Tryz.underlying9 hi hz0 hz1 hz2 _ _ _ rfl HO.out s rfl ?c3 ?c4 ?c5 ?_)
  case c3 => have := SZ.out; have := HS.out; unfold maxLen; omega
  case c4 => have := SZ.out; have := HS.out; omega
  case c5 => omega
  intro v' w2 hown' hgrow hnil
  have O1 : Hid (w2.ownsRow B 5 1 v' (L1 ++ Lib.strCells s).length (L1 ++ Lib.strCells s)) := by show World.ownsRow _ _ _ _ _ _ _; first | (rw [List.length_append, Lib.strCells_length]; exact hown')
  have G1 : Hid (w2.heap[g]? = some (.cells #[.slice x n c] 40 (0, 0))) := by
    rw [hgrow.block g HB1.2 (fun e => NE.out e.symm)]
    exact HG.out
  have B2 : Hid (Bq B w w2) := B1.out.grown HO.out hgrow (by omega)
  have d0 : w2.cell? ⟨g, 0, none⟩ = some (.slice x n c) := by simp [World.cell?, G1.out]
  have d1 : w2.frozen? ⟨g, 0, none⟩ = false := by simp [World.frozen?, G1.out]
  obtain ⟨y, k, q, rfl⟩ : ∃ y k q, v' = .slice y k q := by
    rcases hown'.2 with ⟨hv, _⟩ | ⟨_, cap, cur, hv, _⟩
    · exact ⟨_, _, _, hv⟩
    · exact ⟨_, _, _, hv⟩
  clear hown' hgrow hnil c0
  go_wp2
  go_end0
  exact ⟨rfl, by unfold Wb; rw [ET.out]; exact Wq.put HB.1 G1.out O1.out (HU1.app (U8s.str s)), B2.out.set G1.out HB.1 _ _⟩
set_option maxRecDepth 20000 in
set_option maxHeartbeats 4000000 in
theorem valueX (B g : Nat) (bs : List Nat) (k b : Int) (s : ByteArray) (w : World) (h : Wb B g bs w) (hl : bs.length ≤ 8796093022208) (hs : s.size ≤ 4194304) (hk : 0 ≤ k ∧ k < 256) :
    Calls Tryz.prog 51 #[.pointer (some ⟨g, 0, none⟩), .agg #[.int .u8 k, .int .u64 b, .string s]] w fun e w' => e = .returned (.tuple #[]) ∧ Wb B g (bs ++ vbN k b s) w' ∧ Bq B w w' := by
  have HB := h.lt
  have R0 : Hid (∀ W, Wb B g bs W → Calls Tryz.prog 48 #[.pointer (some ⟨g, 0, none⟩), .int .u8 k] W fun e w' => e = .returned (.tuple #[]) ∧ Wb B g (bs ++ [(k % (256 : Int)).toNat]) w' ∧ Bq B W w') := fun W hW => rawX B g bs _ k (by omega) W hW (by omega)
  have N0 : Hid (∀ W, Wb B g (bs ++ [(k % (256 : Int)).toNat]) W → Calls Tryz.prog 47 #[.pointer (some ⟨g, 0, none⟩), .int .i64 (wrap64 b)] W fun e w' => e = .returned (.tuple #[]) ∧ Wb B g (bs ++ [(k % (256 : Int)).toNat] ++ nbN (wrap64 b)) w' ∧ Bq B W w') := fun W hW => numberX B g _ _ W hW (by rw [List.length_append]; simp; omega)
  have T0 : Hid (∀ W, Wb B g (bs ++ [(k % (256 : Int)).toNat] ++ nbN (wrap64 b)) W → Calls Tryz.prog 25 #[.pointer (some ⟨g, 0, none⟩), .string s] W fun e w' => e = .returned (.tuple #[]) ∧ Wb B g (bs ++ vbN k b s) w' ∧ Bq B W w') := fun W hW => by
    have e : bs ++ vbN k b s = bs ++ [(k % (256 : Int)).toNat] ++ nbN (wrap64 b) ++ tbN s := by unfold vbN; simp only [List.append_assoc]
    rw [e]
    exact textX B g _ s W hW (by rw [List.length_append, List.length_append, nbN_len]; simp; omega) hs
  obtain ⟨AW, eW⟩ : ∃ AW, AW = w.alloc (.cells #[.int .u8 k, .int .u64 b, .string s] 54 (0, 0)) := ⟨_, rfl⟩
  have AX : Hid (AW.heap[w.heap.size]? = some (.cells #[.int .u8 k, .int .u64 b, .string s] 54 (0, 0))) := by rw [eW]; exact heap_alloc_last _ _
  have AB : Hid (Below w.heap.size w AW) := by rw [eW]; exact (Below.refl _ _).alloc (Nat.le_refl _) _
  have QA : Hid (Bq B w AW) := Bq.up AB.out (by omega)
  have H0 : Hid (Wb B g bs AW) := Wq.below h AB.out
  clear h hl hs hk
  have i0 : AW.cell? ⟨w.heap.size, 0, none⟩ = some (.int .u8 k) := by simp [World.cell?, AX.out]
  go_enter Tryz.func51, Tryz.ntmps51
  go_upto_region 1 with fail
  rw [← eW]
  clear eW
  go_wp2_with (go_at_call 48; refine (R0.out _ H0.out).mono ?_)
  first | (rintro e w1 ⟨he, h1, hb1⟩; have he' := he) | (rintro e w1 he h1 hb1)
  subst he
  have H1 : Hid (Wb B g (bs ++ [(k % (256 : Int)).toNat]) w1) := h1
  have Q1 : Hid (Bq B AW w1) := hb1
  have X1 := hb1.k _ _ _ _ AX.out (by decide) (by decide)
  have i1 : w1.cell? ⟨w.heap.size, 1, none⟩ = some (.int .u64 b) := by simp [World.cell?, X1]
  clear h1 hb1 i0 X1
  go_wp2_with (go_at_call 47; refine (N0.out _ H1.out).mono ?_)
  first | (rintro e w2 ⟨he, h1, hb1⟩; have he' := he) | (rintro e w2 he h1 hb1)
  subst he
  have H2 : Hid (Wb B g (bs ++ [(k % (256 : Int)).toNat] ++ nbN (wrap64 b)) w2) := h1
  have Q2 : Hid (Bq B AW w2) := Q1.out.trans hb1
  have X2 := Q2.out.k _ _ _ _ AX.out (by decide) (by decide)
  have i2 : w2.cell? ⟨w.heap.size, 2, none⟩ = some (.string s) := by simp [World.cell?, X2]
  clear h1 hb1 i1 X2
  go_wp2_with (go_at_call 25; refine (T0.out _ H2.out).mono ?_)
  first | (rintro e w3 ⟨he, h1, hb1⟩; have he' := he) | (rintro e w3 he h1 hb1)
  subst he
  have H3 : Hid (Wb B g (bs ++ vbN k b s) w3) := h1
  have Q3 : Hid (Bq B w w3) := QA.out.trans (Q2.out.trans hb1)
  clear h1 hb1 i2
  go_wp2
  go_end0
  exact ⟨rfl, H3.out, Q3.out⟩
end Go.Proofs.YtkickdmomompjaaGreat
namespace Go.Proofs.YtkickdmomompjaaGreat
set_option linter.unusedVariables false
open Go.RowKit
def cbN (c : CeR) : List Nat := [(c.kd % (256 : Int)).toNat] ++ [bbN c.sb] ++ nsN [c.lo, c.hi, c.mx] ++ vbN c.ik c.ib c.is ++ [bbN c.kp] ++ [(c.dr % (256 : Int)).toNat] ++ tbN c.ad
def obN (o : OpR) : List Nat := nsN [o.cd, o.a, o.b, o.c, o.d, o.lo, o.hi] ++ vbN o.vk o.vb o.vs
def lbN (l : LpR) : List Nat := nsN [l.hd, l.en, l.tm]
theorem cbN_len (c : CeR) : (cbN c).length = 53 + c.is.size + c.ad.size := by unfold cbN; (repeat first | rw [List.length_append] | rw [nsN_len] | rw [nbN_len] | rw [tbN_len] | rw [vbN_len] | rw [List.length_cons] | rw [List.length_nil]); all_goals omega
theorem obN_len (o : OpR) : (obN o).length = 73 + o.vs.size := by unfold obN; (repeat first | rw [List.length_append] | rw [nsN_len] | rw [nbN_len] | rw [tbN_len] | rw [vbN_len] | rw [List.length_cons] | rw [List.length_nil]); all_goals omega
theorem lbN_len (l : LpR) : (lbN l).length = 24 := by unfold lbN; (repeat first | rw [List.length_append] | rw [nsN_len] | rw [nbN_len] | rw [tbN_len] | rw [vbN_len] | rw [List.length_cons] | rw [List.length_nil]); all_goals omega
set_option maxRecDepth 20000 in
set_option maxHeartbeats 4000000 in
theorem cellX (B g : Nat) (bs : List Nat) (c : CeR) (w : World) (h : Wb B g bs w) (hl : bs.length ≤ 6597069766656) (hk : 0 ≤ c.kd ∧ c.kd < 256) (hi : 0 ≤ c.ik ∧ c.ik < 256) (hs : c.is.size ≤ 4194304) (ha : c.ad.size ≤ 4194304) :
    Calls Tryz.prog 27 #[.pointer (some ⟨g, 0, none⟩), CeV c] w fun e w' => e = .returned (.tuple #[]) ∧ Wb B g (bs ++ cbN c) w' ∧ Bq B w w' := by
  have HB := h.lt
  have R0 : Hid (∀ W, Bq B w W → Wb B g (bs) W → Calls Tryz.prog 48 #[.pointer (some ⟨g, 0, none⟩), .int .u8 c.kd] W fun e w' => e = .returned (.tuple #[]) ∧ Wb B g (bs ++ [(c.kd % (256 : Int)).toNat]) w' ∧ Bq B W w') := fun W hQ hW => rawX B g (bs) _ c.kd (by omega) W hW (by (repeat first | rw [List.length_append] | rw [nsN_len] | rw [nbN_len] | rw [tbN_len] | rw [vbN_len] | rw [List.length_cons] | rw [List.length_nil]); all_goals omega)
  have R1 : Hid (∀ W, Bq B w W → Wb B g (bs ++ [(c.kd % (256 : Int)).toNat]) W → Calls Tryz.prog 49 #[.pointer (some ⟨g, 0, none⟩), .bool c.sb] W fun e w' => e = .returned (.tuple #[]) ∧ Wb B g (bs ++ [(c.kd % (256 : Int)).toNat] ++ [bbN c.sb]) w' ∧ Bq B W w') := fun W hQ hW => flagX B g (bs ++ [(c.kd % (256 : Int)).toNat]) c.sb W hW (by (repeat first | rw [List.length_append] | rw [nsN_len] | rw [nbN_len] | rw [tbN_len] | rw [vbN_len] | rw [List.length_cons] | rw [List.length_nil]); all_goals omega)
  have R2 : Hid (∀ W, Bq B w W → Wb B g (bs ++ [(c.kd % (256 : Int)).toNat] ++ [bbN c.sb]) W → Calls Tryz.prog 50 #[.pointer (some ⟨g, 0, none⟩), .slice (some ⟨W.heap.size, 0, none⟩) 3 3] (W.alloc (.cells #[.int .i64 c.lo, .int .i64 c.hi, .int .i64 c.mx] 3 (0, 0))) fun e w' => e = .returned (.tuple #[]) ∧ Wb B g (bs ++ [(c.kd % (256 : Int)).toNat] ++ [bbN c.sb] ++ nsN [c.lo, c.hi, c.mx]) w' ∧ Bq B W w') := fun W hQ hW => by
    have q := numbersX B g (bs ++ [(c.kd % (256 : Int)).toNat] ++ [bbN c.sb]) [c.lo, c.hi, c.mx] W.heap.size 3 (0, 0) (W.alloc (.cells #[.int .i64 c.lo, .int .i64 c.hi, .int .i64 c.mx] 3 (0, 0))) (Wq.below hW ((Below.refl _ _).alloc (Nat.le_refl _) _)) (heap_alloc_last _ _) (by (repeat first | rw [List.length_append] | rw [nsN_len] | rw [nbN_len] | rw [tbN_len] | rw [vbN_len] | rw [List.length_cons] | rw [List.length_nil]); all_goals omega) (by simp)
    have z := hW.lt
    refine q.mono ?_
    rintro e w' ⟨he, h1, h2⟩
    exact ⟨he, by exact h1, (Bq.up ((Below.refl _ _).alloc (Nat.le_refl _) _) (by omega)).trans h2⟩
  have R3 : Hid (∀ W, Bq B w W → Wb B g (bs ++ [(c.kd % (256 : Int)).toNat] ++ [bbN c.sb] ++ nsN [c.lo, c.hi, c.mx]) W → Calls Tryz.prog 51 #[.pointer (some ⟨g, 0, none⟩), .agg #[.int .u8 c.ik, .int .u64 c.ib, .string c.is]] W fun e w' => e = .returned (.tuple #[]) ∧ Wb B g (bs ++ [(c.kd % (256 : Int)).toNat] ++ [bbN c.sb] ++ nsN [c.lo, c.hi, c.mx] ++ vbN c.ik c.ib c.is) w' ∧ Bq B W w') := fun W hQ hW => valueX B g (bs ++ [(c.kd % (256 : Int)).toNat] ++ [bbN c.sb] ++ nsN [c.lo, c.hi, c.mx]) c.ik c.ib c.is W hW (by (repeat first | rw [List.length_append] | rw [nsN_len] | rw [nbN_len] | rw [tbN_len] | rw [vbN_len] | rw [List.length_cons] | rw [List.length_nil]); all_goals omega) hs hi
  have R4 : Hid (∀ W, Bq B w W → Wb B g (bs ++ [(c.kd % (256 : Int)).toNat] ++ [bbN c.sb] ++ nsN [c.lo, c.hi, c.mx] ++ vbN c.ik c.ib c.is) W → Calls Tryz.prog 49 #[.pointer (some ⟨g, 0, none⟩), .bool c.kp] W fun e w' => e = .returned (.tuple #[]) ∧ Wb B g (bs ++ [(c.kd % (256 : Int)).toNat] ++ [bbN c.sb] ++ nsN [c.lo, c.hi, c.mx] ++ vbN c.ik c.ib c.is ++ [bbN c.kp]) w' ∧ Bq B W w') := fun W hQ hW => flagX B g (bs ++ [(c.kd % (256 : Int)).toNat] ++ [bbN c.sb] ++ nsN [c.lo, c.hi, c.mx] ++ vbN c.ik c.ib c.is) c.kp W hW (by (repeat first | rw [List.length_append] | rw [nsN_len] | rw [nbN_len] | rw [tbN_len] | rw [vbN_len] | rw [List.length_cons] | rw [List.length_nil]); all_goals omega)
  have R5 : Hid (∀ W, Bq B w W → Wb B g (bs ++ [(c.kd % (256 : Int)).toNat] ++ [bbN c.sb] ++ nsN [c.lo, c.hi, c.mx] ++ vbN c.ik c.ib c.is ++ [bbN c.kp]) W → Calls Tryz.prog 48 #[.pointer (some ⟨g, 0, none⟩), .int .u8 (c.dr % (256 : Int))] W fun e w' => e = .returned (.tuple #[]) ∧ Wb B g (bs ++ [(c.kd % (256 : Int)).toNat] ++ [bbN c.sb] ++ nsN [c.lo, c.hi, c.mx] ++ vbN c.ik c.ib c.is ++ [bbN c.kp] ++ [(c.dr % (256 : Int)).toNat]) w' ∧ Bq B W w') := fun W hQ hW => rawX B g (bs ++ [(c.kd % (256 : Int)).toNat] ++ [bbN c.sb] ++ nsN [c.lo, c.hi, c.mx] ++ vbN c.ik c.ib c.is ++ [bbN c.kp]) _ _ (by_nat _).symm W hW (by (repeat first | rw [List.length_append] | rw [nsN_len] | rw [nbN_len] | rw [tbN_len] | rw [vbN_len] | rw [List.length_cons] | rw [List.length_nil]); all_goals omega)
  have R6 : Hid (∀ W, Bq B w W → Wb B g (bs ++ [(c.kd % (256 : Int)).toNat] ++ [bbN c.sb] ++ nsN [c.lo, c.hi, c.mx] ++ vbN c.ik c.ib c.is ++ [bbN c.kp] ++ [(c.dr % (256 : Int)).toNat]) W → Calls Tryz.prog 25 #[.pointer (some ⟨g, 0, none⟩), .string c.ad] W fun e w' => e = .returned (.tuple #[]) ∧ Wb B g (bs ++ cbN c) w' ∧ Bq B W w') := fun W hQ hW => by
    have q := textX B g (bs ++ [(c.kd % (256 : Int)).toNat] ++ [bbN c.sb] ++ nsN [c.lo, c.hi, c.mx] ++ vbN c.ik c.ib c.is ++ [bbN c.kp] ++ [(c.dr % (256 : Int)).toNat]) c.ad W hW (by (repeat first | rw [List.length_append] | rw [nsN_len] | rw [nbN_len] | rw [tbN_len] | rw [vbN_len] | rw [List.length_cons] | rw [List.length_nil]); all_goals omega) ha
    refine q.mono ?_
    rintro e w' ⟨he, h1, h2⟩
    exact ⟨he, by simpa only [cbN, List.append_assoc] using h1, h2⟩
  obtain ⟨AW, eW⟩ : ∃ AW, AW = w.alloc (.cells #[.int .u8 c.kd, .bool c.sb, .int .i64 c.lo, .int .i64 c.hi, .int .i64 c.mx, .int .u8 c.ik, .int .u64 c.ib, .string c.is, .bool c.kp, .int .i64 c.dr, .string c.ad] 56 (0, 0)) := ⟨_, rfl⟩
  have AX : Hid (AW.heap[w.heap.size]? = some (.cells #[.int .u8 c.kd, .bool c.sb, .int .i64 c.lo, .int .i64 c.hi, .int .i64 c.mx, .int .u8 c.ik, .int .u64 c.ib, .string c.is, .bool c.kp, .int .i64 c.dr, .string c.ad] 56 (0, 0))) := by rw [eW]; exact heap_alloc_last _ _
  have AB : Hid (Below w.heap.size w AW) := by rw [eW]; exact (Below.refl _ _).alloc (Nat.le_refl _) _
  have Q0 : Hid (Bq B AW AW) := Bq.refl _ _
  have QA : Hid (Bq B w AW) := Bq.up AB.out (by omega)
  have H0 : Hid (Wb B g bs AW) := Wq.below h AB.out
  clear h hl hk hi hs ha
  go_enter Tryz.func27, Tryz.ntmps27
  go_upto_region 1 with fail
  rw [← eW]
  clear eW
  have X := Q0.out.k _ _ _ _ AX.out (by decide) (by decide)
  have i0 : AW.cell? ⟨w.heap.size, 0, none⟩ = some (.int .u8 c.kd) := by simp [World.cell?, X]
  clear X
  go_wp2_with (go_at_call 48; refine (R0.out _ (QA.out.trans Q0.out) H0.out).mono ?_)
  first | (rintro e w1 ⟨he, h1, hb1⟩; have he' := he) | (rintro e w1 he h1 hb1)
  subst he
  have H1 : Hid (Wb B g (bs ++ [(c.kd % (256 : Int)).toNat]) w1) := h1
  have Q1 : Hid (Bq B AW w1) := Q0.out.trans hb1
  clear h1 hb1 i0
  have X := Q1.out.k _ _ _ _ AX.out (by decide) (by decide)
  have i1 : w1.cell? ⟨w.heap.size, 1, none⟩ = some (.bool c.sb) := by simp [World.cell?, X]
  clear X
  go_wp2_with (go_at_call 49; refine (R1.out _ (QA.out.trans Q1.out) H1.out).mono ?_)
  first | (rintro e w2 ⟨he, h1, hb1⟩; have he' := he) | (rintro e w2 he h1 hb1)
  subst he
  have H2 : Hid (Wb B g (bs ++ [(c.kd % (256 : Int)).toNat] ++ [bbN c.sb]) w2) := h1
  have Q2 : Hid (Bq B AW w2) := Q1.out.trans hb1
  clear h1 hb1 i1
  have X := Q2.out.k _ _ _ _ AX.out (by decide) (by decide)
  have i2 : w2.cell? ⟨w.heap.size, 2, none⟩ = some (.int .i64 c.lo) := by simp [World.cell?, X]
  have i3 : w2.cell? ⟨w.heap.size, 3, none⟩ = some (.int .i64 c.hi) := by simp [World.cell?, X]
  have i4 : w2.cell? ⟨w.heap.size, 4, none⟩ = some (.int .i64 c.mx) := by simp [World.cell?, X]
  clear X
  go_wp2_with (go_at_call 50; refine (R2.out _ (QA.out.trans Q2.out) H2.out).mono ?_)
  first | (rintro e w3 ⟨he, h1, hb1⟩; have he' := he) | (rintro e w3 he h1 hb1)
  subst he
  have H3 : Hid (Wb B g (bs ++ [(c.kd % (256 : Int)).toNat] ++ [bbN c.sb] ++ nsN [c.lo, c.hi, c.mx]) w3) := h1
  have Q3 : Hid (Bq B AW w3) := Q2.out.trans hb1
  clear h1 hb1 i2 i3 i4
  have X := Q3.out.k _ _ _ _ AX.out (by decide) (by decide)
  have i5 : w3.cell? ⟨w.heap.size, 5, none⟩ = some (.int .u8 c.ik) := by simp [World.cell?, X]
  have i6 : w3.cell? ⟨w.heap.size, 6, none⟩ = some (.int .u64 c.ib) := by simp [World.cell?, X]
  have i7 : w3.cell? ⟨w.heap.size, 7, none⟩ = some (.string c.is) := by simp [World.cell?, X]
  clear X
  go_wp2_with (go_at_call 51; refine (R3.out _ (QA.out.trans Q3.out) H3.out).mono ?_)
  first | (rintro e w4 ⟨he, h1, hb1⟩; have he' := he) | (rintro e w4 he h1 hb1)
  subst he
  have H4 : Hid (Wb B g (bs ++ [(c.kd % (256 : Int)).toNat] ++ [bbN c.sb] ++ nsN [c.lo, c.hi, c.mx] ++ vbN c.ik c.ib c.is) w4) := h1
  have Q4 : Hid (Bq B AW w4) := Q3.out.trans hb1
  clear h1 hb1 i5 i6 i7
  have X := Q4.out.k _ _ _ _ AX.out (by decide) (by decide)
  have i8 : w4.cell? ⟨w.heap.size, 8, none⟩ = some (.bool c.kp) := by simp [World.cell?, X]
  clear X
  go_wp2_with (go_at_call 49; refine (R4.out _ (QA.out.trans Q4.out) H4.out).mono ?_)
  first | (rintro e w5 ⟨he, h1, hb1⟩; have he' := he) | (rintro e w5 he h1 hb1)
  subst he
  have H5 : Hid (Wb B g (bs ++ [(c.kd % (256 : Int)).toNat] ++ [bbN c.sb] ++ nsN [c.lo, c.hi, c.mx] ++ vbN c.ik c.ib c.is ++ [bbN c.kp]) w5) := h1
  have Q5 : Hid (Bq B AW w5) := Q4.out.trans hb1
  clear h1 hb1 i8
  have X := Q5.out.k _ _ _ _ AX.out (by decide) (by decide)
  have i9 : w5.cell? ⟨w.heap.size, 9, none⟩ = some (.int .i64 c.dr) := by simp [World.cell?, X]
  clear X
  go_wp2_with (go_at_call 48; refine (R5.out _ (QA.out.trans Q5.out) H5.out).mono ?_)
  first | (rintro e w6 ⟨he, h1, hb1⟩; have he' := he) | (rintro e w6 he h1 hb1)
  subst he
  have H6 : Hid (Wb B g (bs ++ [(c.kd % (256 : Int)).toNat] ++ [bbN c.sb] ++ nsN [c.lo, c.hi, c.mx] ++ vbN c.ik c.ib c.is ++ [bbN c.kp] ++ [(c.dr % (256 : Int)).toNat]) w6) := h1
  have Q6 : Hid (Bq B AW w6) := Q5.out.trans hb1
  clear h1 hb1 i9
  have X := Q6.out.k _ _ _ _ AX.out (by decide) (by decide)
  have i10 : w6.cell? ⟨w.heap.size, 10, none⟩ = some (.string c.ad) := by simp [World.cell?, X]
  clear X
  go_wp2_with (go_at_call 25; refine (R6.out _ (QA.out.trans Q6.out) H6.out).mono ?_)
  first | (rintro e w7 ⟨he, h1, hb1⟩; have he' := he) | (rintro e w7 he h1 hb1)
  subst he
  have H7 : Hid (Wb B g (bs ++ cbN c) w7) := h1
  have Q7 : Hid (Bq B AW w7) := Q6.out.trans hb1
  clear h1 hb1 i10
  go_wp2
  go_end0
  exact ⟨rfl, H7.out, QA.out.trans Q7.out⟩
set_option maxRecDepth 20000 in
set_option maxHeartbeats 4000000 in
theorem opX (B g : Nat) (bs : List Nat) (o : OpR) (w : World) (h : Wb B g bs w) (hl : bs.length ≤ 6597069766656) (hk : 0 ≤ o.vk ∧ o.vk < 256) (hs : o.vs.size ≤ 4194304) :
    Calls Tryz.prog 53 #[.pointer (some ⟨g, 0, none⟩), OpV o] w fun e w' => e = .returned (.tuple #[]) ∧ Wb B g (bs ++ obN o) w' ∧ Bq B w w' := by
  have HB := h.lt
  have R0 : Hid (∀ W, Bq B w W → Wb B g (bs) W → Calls Tryz.prog 50 #[.pointer (some ⟨g, 0, none⟩), .slice (some ⟨W.heap.size, 0, none⟩) 7 7] (W.alloc (.cells #[.int .i64 o.cd, .int .i64 o.a, .int .i64 o.b, .int .i64 o.c, .int .i64 o.d, .int .i64 o.lo, .int .i64 o.hi] 3 (0, 0))) fun e w' => e = .returned (.tuple #[]) ∧ Wb B g (bs ++ nsN [o.cd, o.a, o.b, o.c, o.d, o.lo, o.hi]) w' ∧ Bq B W w') := fun W hQ hW => by
    have q := numbersX B g (bs) [o.cd, o.a, o.b, o.c, o.d, o.lo, o.hi] W.heap.size 7 (0, 0) (W.alloc (.cells #[.int .i64 o.cd, .int .i64 o.a, .int .i64 o.b, .int .i64 o.c, .int .i64 o.d, .int .i64 o.lo, .int .i64 o.hi] 3 (0, 0))) (Wq.below hW ((Below.refl _ _).alloc (Nat.le_refl _) _)) (heap_alloc_last _ _) (by (repeat first | rw [List.length_append] | rw [nsN_len] | rw [nbN_len] | rw [tbN_len] | rw [vbN_len] | rw [List.length_cons] | rw [List.length_nil]); all_goals omega) (by simp)
    have z := hW.lt
    refine q.mono ?_
    rintro e w' ⟨he, h1, h2⟩
    exact ⟨he, by exact h1, (Bq.up ((Below.refl _ _).alloc (Nat.le_refl _) _) (by omega)).trans h2⟩
  have R1 : Hid (∀ W, Bq B w W → Wb B g (bs ++ nsN [o.cd, o.a, o.b, o.c, o.d, o.lo, o.hi]) W → Calls Tryz.prog 51 #[.pointer (some ⟨g, 0, none⟩), .agg #[.int .u8 o.vk, .int .u64 o.vb, .string o.vs]] W fun e w' => e = .returned (.tuple #[]) ∧ Wb B g (bs ++ obN o) w' ∧ Bq B W w') := fun W hQ hW => by
    have q := valueX B g (bs ++ nsN [o.cd, o.a, o.b, o.c, o.d, o.lo, o.hi]) o.vk o.vb o.vs W hW (by (repeat first | rw [List.length_append] | rw [nsN_len] | rw [nbN_len] | rw [tbN_len] | rw [vbN_len] | rw [List.length_cons] | rw [List.length_nil]); all_goals omega) hs hk
    refine q.mono ?_
    rintro e w' ⟨he, h1, h2⟩
    exact ⟨he, by simpa only [obN, List.append_assoc] using h1, h2⟩
  obtain ⟨AW, eW⟩ : ∃ AW, AW = w.alloc (.cells #[.int .i64 o.cd, .int .i64 o.a, .int .i64 o.b, .int .i64 o.c, .int .i64 o.d, .int .i64 o.lo, .int .i64 o.hi, .int .u8 o.vk, .int .u64 o.vb, .string o.vs] 88 (0, 0)) := ⟨_, rfl⟩
  have AX : Hid (AW.heap[w.heap.size]? = some (.cells #[.int .i64 o.cd, .int .i64 o.a, .int .i64 o.b, .int .i64 o.c, .int .i64 o.d, .int .i64 o.lo, .int .i64 o.hi, .int .u8 o.vk, .int .u64 o.vb, .string o.vs] 88 (0, 0))) := by rw [eW]; exact heap_alloc_last _ _
  have AB : Hid (Below w.heap.size w AW) := by rw [eW]; exact (Below.refl _ _).alloc (Nat.le_refl _) _
  have Q0 : Hid (Bq B AW AW) := Bq.refl _ _
  have QA : Hid (Bq B w AW) := Bq.up AB.out (by omega)
  have H0 : Hid (Wb B g bs AW) := Wq.below h AB.out
  clear h hl hk hs
  go_enter Tryz.func53, Tryz.ntmps53
  go_upto_region 1 with fail
  rw [← eW]
  clear eW
  have X := Q0.out.k _ _ _ _ AX.out (by decide) (by decide)
  have i0 : AW.cell? ⟨w.heap.size, 0, none⟩ = some (.int .i64 o.cd) := by simp [World.cell?, X]
  have i1 : AW.cell? ⟨w.heap.size, 1, none⟩ = some (.int .i64 o.a) := by simp [World.cell?, X]
  have i2 : AW.cell? ⟨w.heap.size, 2, none⟩ = some (.int .i64 o.b) := by simp [World.cell?, X]
  have i3 : AW.cell? ⟨w.heap.size, 3, none⟩ = some (.int .i64 o.c) := by simp [World.cell?, X]
  have i4 : AW.cell? ⟨w.heap.size, 4, none⟩ = some (.int .i64 o.d) := by simp [World.cell?, X]
  have i5 : AW.cell? ⟨w.heap.size, 5, none⟩ = some (.int .i64 o.lo) := by simp [World.cell?, X]
  have i6 : AW.cell? ⟨w.heap.size, 6, none⟩ = some (.int .i64 o.hi) := by simp [World.cell?, X]
  clear X
  go_wp2_with (go_at_call 50; refine (R0.out _ (QA.out.trans Q0.out) H0.out).mono ?_)
  first | (rintro e w1 ⟨he, h1, hb1⟩; have he' := he) | (rintro e w1 he h1 hb1)
  subst he
  have H1 : Hid (Wb B g (bs ++ nsN [o.cd, o.a, o.b, o.c, o.d, o.lo, o.hi]) w1) := h1
  have Q1 : Hid (Bq B AW w1) := Q0.out.trans hb1
  clear h1 hb1 i0 i1 i2 i3 i4 i5 i6
  have X := Q1.out.k _ _ _ _ AX.out (by decide) (by decide)
  have i7 : w1.cell? ⟨w.heap.size, 7, none⟩ = some (.int .u8 o.vk) := by simp [World.cell?, X]
  have i8 : w1.cell? ⟨w.heap.size, 8, none⟩ = some (.int .u64 o.vb) := by simp [World.cell?, X]
  have i9 : w1.cell? ⟨w.heap.size, 9, none⟩ = some (.string o.vs) := by simp [World.cell?, X]
  clear X
  go_wp2_with (go_at_call 51; refine (R1.out _ (QA.out.trans Q1.out) H1.out).mono ?_)
  first | (rintro e w2 ⟨he, h1, hb1⟩; have he' := he) | (rintro e w2 he h1 hb1)
  subst he
  have H2 : Hid (Wb B g (bs ++ obN o) w2) := h1
  have Q2 : Hid (Bq B AW w2) := Q1.out.trans hb1
  clear h1 hb1 i7 i8 i9
  go_wp2
  go_end0
  exact ⟨rfl, H2.out, QA.out.trans Q2.out⟩
set_option maxRecDepth 20000 in
set_option maxHeartbeats 4000000 in
theorem loopX (B g : Nat) (bs : List Nat) (l : LpR) (w : World) (h : Wb B g bs w) (hl : bs.length ≤ 6597069766656)  :
    Calls Tryz.prog 55 #[.pointer (some ⟨g, 0, none⟩), .agg #[.int .i64 l.hd, .int .i64 l.en, .int .i64 l.tm]] w fun e w' => e = .returned (.tuple #[]) ∧ Wb B g (bs ++ lbN l) w' ∧ Bq B w w' := by
  have HB := h.lt
  have R0 : Hid (∀ W, Bq B w W → Wb B g (bs) W → Calls Tryz.prog 50 #[.pointer (some ⟨g, 0, none⟩), .slice (some ⟨W.heap.size, 0, none⟩) 3 3] (W.alloc (.cells #[.int .i64 l.hd, .int .i64 l.en, .int .i64 l.tm] 3 (0, 0))) fun e w' => e = .returned (.tuple #[]) ∧ Wb B g (bs ++ lbN l) w' ∧ Bq B W w') := fun W hQ hW => by
    have q := numbersX B g (bs) [l.hd, l.en, l.tm] W.heap.size 3 (0, 0) (W.alloc (.cells #[.int .i64 l.hd, .int .i64 l.en, .int .i64 l.tm] 3 (0, 0))) (Wq.below hW ((Below.refl _ _).alloc (Nat.le_refl _) _)) (heap_alloc_last _ _) (by (repeat first | rw [List.length_append] | rw [nsN_len] | rw [nbN_len] | rw [tbN_len] | rw [vbN_len] | rw [List.length_cons] | rw [List.length_nil]); all_goals omega) (by simp)
    have z := hW.lt
    refine q.mono ?_
    rintro e w' ⟨he, h1, h2⟩
    exact ⟨he, by simpa only [lbN, List.append_assoc] using h1, (Bq.up ((Below.refl _ _).alloc (Nat.le_refl _) _) (by omega)).trans h2⟩
  obtain ⟨AW, eW⟩ : ∃ AW, AW = w.alloc (.cells #[.int .i64 l.hd, .int .i64 l.en, .int .i64 l.tm] 103 (0, 0)) := ⟨_, rfl⟩
  have AX : Hid (AW.heap[w.heap.size]? = some (.cells #[.int .i64 l.hd, .int .i64 l.en, .int .i64 l.tm] 103 (0, 0))) := by rw [eW]; exact heap_alloc_last _ _
  have AB : Hid (Below w.heap.size w AW) := by rw [eW]; exact (Below.refl _ _).alloc (Nat.le_refl _) _
  have Q0 : Hid (Bq B AW AW) := Bq.refl _ _
  have QA : Hid (Bq B w AW) := Bq.up AB.out (by omega)
  have H0 : Hid (Wb B g bs AW) := Wq.below h AB.out
  clear h hl 
  go_enter Tryz.func55, Tryz.ntmps55
  go_upto_region 1 with fail
  rw [← eW]
  clear eW
  have X := Q0.out.k _ _ _ _ AX.out (by decide) (by decide)
  have i0 : AW.cell? ⟨w.heap.size, 0, none⟩ = some (.int .i64 l.hd) := by simp [World.cell?, X]
  have i1 : AW.cell? ⟨w.heap.size, 1, none⟩ = some (.int .i64 l.en) := by simp [World.cell?, X]
  have i2 : AW.cell? ⟨w.heap.size, 2, none⟩ = some (.int .i64 l.tm) := by simp [World.cell?, X]
  clear X
  go_wp2_with (go_at_call 50; refine (R0.out _ (QA.out.trans Q0.out) H0.out).mono ?_)
  first | (rintro e w1 ⟨he, h1, hb1⟩; have he' := he) | (rintro e w1 he h1 hb1)
  subst he
  have H1 : Hid (Wb B g (bs ++ lbN l) w1) := h1
  have Q1 : Hid (Bq B AW w1) := Q0.out.trans hb1
  clear h1 hb1 i0 i1 i2
  go_wp2
  go_end0
  exact ⟨rfl, H1.out, QA.out.trans Q1.out⟩
end Go.Proofs.YtkickdmomompjaaGreat
namespace Go.Proofs.YtkickdmomompjaaGreat
set_option linter.unusedVariables false
open Go.RowKit
theorem mayDo_no (o : OpR) (f : FlR) (x1 x2 : Option Addr) (p1 p2 : Nat) (cs : Int) (h : inB 1 23 o.cd = false) (w : World) : Calls Tryz.prog 38 #[OpV o, FlV f x1 x2 p1 p2, .int .i64 cs] w fun e w' => e = .returned (.bool false) ∧ Below w.heap.size w w' := by
  unfold inB at h
  by_cases c1 : 1 ≤ o.cd
  · have c2 : ¬ o.cd ≤ 23 := by simp [c1] at h; omega
    clear h
    go_enter Tryz.func38, Tryz.ntmps38
    go_wp2
    go_ret
    exact ⟨rfl, by go_grown⟩
  · clear h
    go_enter Tryz.func38, Tryz.ntmps38
    go_wp2
    go_ret
    exact ⟨rfl, by go_grown⟩
theorem ix4_0 (a b c d : Int) (w : World) : (Instr.index 122 (.agg #[.int .i64 a, .int .i64 b, .int .i64 c, .int .i64 d]) (.int .i64 0)).run Tryz.prog w = .ok (.int .i64 a) w := by kernel_rfl
theorem ix4_1 (a b c d : Int) (w : World) : (Instr.index 122 (.agg #[.int .i64 a, .int .i64 b, .int .i64 c, .int .i64 d]) (.int .i64 1)).run Tryz.prog w = .ok (.int .i64 b) w := by kernel_rfl
theorem ix4_2 (a b c d : Int) (w : World) : (Instr.index 122 (.agg #[.int .i64 a, .int .i64 b, .int .i64 c, .int .i64 d]) (.int .i64 2)).run Tryz.prog w = .ok (.int .i64 c) w := by kernel_rfl
theorem ix4_3 (a b c d : Int) (w : World) : (Instr.index 122 (.agg #[.int .i64 a, .int .i64 b, .int .i64 c, .int .i64 d]) (.int .i64 3)).run Tryz.prog w = .ok (.int .i64 d) w := by kernel_rfl
/-- Which of four. -/
def pick4 (r0 r1 r2 r3 : Bool) : Nat → Bool
  | 0 => r0
  | 1 => r1
  | 2 => r2
  | _ => r3
set_option maxRecDepth 20000 in
set_option maxHeartbeats 8000000 in
theorem mayDo_yes (o : OpR) (f : FlR) (x1 x2 : Option Addr) (p1 p2 : Nat) (cs : Int) (a1 a2 b1 b2 d1 d2 e1 e2 : Int) (w : World) (hc : 1 ≤ o.cd ∧ o.cd ≤ 23) (ho : OpOk o)
    (F : Hid (∀ W, Calls Tryz.prog 65 #[.int .i64 o.cd, FlV f x1 x2 p1 p2, .int .i64 cs] W fun e w' => e = .returned (.agg #[.int .i64 a1, .int .i64 a2, .int .i64 b1, .int .i64 b2, .int .i64 d1, .int .i64 d2, .int .i64 e1, .int .i64 e2]) ∧ Below W.heap.size W w')) :
    Calls Tryz.prog 38 #[OpV o, FlV f x1 x2 p1 p2, .int .i64 cs] w fun e w' => e = .returned (.bool (inB a1 a2 o.a && inB b1 b2 o.b && inB d1 d2 o.c && inB e1 e2 o.d && rcB o && hdB o)) ∧ Below w.heap.size w w' := by
  have H0 : Hid (∀ W, Calls Tryz.prog 63 #[.agg #[.int .i64 a1, .int .i64 a2], .int .i64 o.a] W fun e w' => e = .returned (.bool (inB a1 a2 o.a)) ∧ Below W.heap.size W w') := fun W => has_of _ _ _ W
  have H1 : Hid (∀ W, Calls Tryz.prog 63 #[.agg #[.int .i64 b1, .int .i64 b2], .int .i64 o.b] W fun e w' => e = .returned (.bool (inB b1 b2 o.b)) ∧ Below W.heap.size W w') := fun W => has_of _ _ _ W
  have H2 : Hid (∀ W, Calls Tryz.prog 63 #[.agg #[.int .i64 d1, .int .i64 d2], .int .i64 o.c] W fun e w' => e = .returned (.bool (inB d1 d2 o.c)) ∧ Below W.heap.size W w') := fun W => has_of _ _ _ W
  have H3 : Hid (∀ W, Calls Tryz.prog 63 #[.agg #[.int .i64 e1, .int .i64 e2], .int .i64 o.d] W fun e w' => e = .returned (.bool (inB e1 e2 o.d)) ∧ Below W.heap.size W w') := fun W => has_of _ _ _ W
  have M1 : Hid (∀ W, Calls Tryz.prog 66 #[OpV o] W fun e w' => e = .returned (.bool (rcB o)) ∧ Below W.heap.size W w') := fun W => mayReach_of o hc ho W
  have M2 : Hid (∀ W, Calls Tryz.prog 67 #[OpV o] W fun e w' => e = .returned (.bool (hdB o)) ∧ Below W.heap.size W w') := fun W => mayHold_of o ho W
  have c1 : ¬ o.cd < 1 := by omega
  have c2 : ¬ 24 ≤ o.cd := by omega
  clear ho hc
  generalize inB a1 a2 o.a = r0 at *
  generalize inB b1 b2 o.b = r1 at *
  generalize inB d1 d2 o.c = r2 at *
  generalize inB e1 e2 o.d = r3 at *
  generalize rcB o = q1 at *
  generalize hdB o = q2 at *
  generalize hv : (r0 && r1 && r2 && r3 && q1 && q2) = VV
  have HV : Hid ((r0 && r1 && r2 && r3 && q1 && q2) = VV) := hv
  clear hv
  go_enter Tryz.func38, Tryz.ntmps38
  go_wp2_with fail
  refine (F.out _).mono ?_
  rintro e w1 ⟨rfl, hb⟩
  have X1 := (hb.block w.heap.size (by simp; omega)).trans (tv_at w _ _).1
  have B1 : Hid (Below w.heap.size w w1) := bl_tr (by go_grown) hb
  have zl : w.heap.size < w1.heap.size := blk_in X1
  have k1 : w1.cell? ⟨w.heap.size, 1, none⟩ = some (.int .i64 o.a) := by simp [World.cell?, X1]
  have k2 : w1.cell? ⟨w.heap.size, 2, none⟩ = some (.int .i64 o.b) := by simp [World.cell?, X1]
  have k3 : w1.cell? ⟨w.heap.size, 3, none⟩ = some (.int .i64 o.c) := by simp [World.cell?, X1]
  have k4 : w1.cell? ⟨w.heap.size, 4, none⟩ = some (.int .i64 o.d) := by simp [World.cell?, X1]
  have XX : Hid _ := X1
  clear hb X1
  go_wp2_with fail
  obtain ⟨AW, eW⟩ : ∃ AW, AW = w1.alloc (.cells #[.int .i64 a1, .int .i64 a2, .int .i64 b1, .int .i64 b2, .int .i64 d1, .int .i64 d2, .int .i64 e1, .int .i64 e2] 120 (0, 0)) := ⟨_, rfl⟩
  have AS : Hid (AW.heap[w1.heap.size]? = some (.cells #[.int .i64 a1, .int .i64 a2, .int .i64 b1, .int .i64 b2, .int .i64 d1, .int .i64 d2, .int .i64 e1, .int .i64 e2] 120 (0, 0))) := by rw [eW]; exact heap_alloc_last _ _
  have AO : Hid (AW.heap[w.heap.size]? = some (.cells #[.int .i64 o.cd, .int .i64 o.a, .int .i64 o.b, .int .i64 o.c, .int .i64 o.d, .int .i64 o.lo, .int .i64 o.hi, .int .u8 o.vk, .int .u64 o.vb, .string o.vs] 88 (0, 0))) := by rw [eW]; exact (Below.heap_alloc _ _ _ zl).trans XX.out
  have AB : Hid (Below w.heap.size w AW) := by rw [eW]; exact B1.out.trans (((Below.refl _ _).alloc (Nat.le_refl _) _).mono B1.out.size)
  rw [← eW]
  clear eW k1 k2 k3 k4 XX
  go_loopw [32] (fun i wr => ∃ k : Nat, k ≤ 4 ∧ i = .int .i64 k ∧ Below w.heap.size w wr ∧ wr.heap[w.heap.size]? = some (.cells #[.int .i64 o.cd, .int .i64 o.a, .int .i64 o.b, .int .i64 o.c, .int .i64 o.d, .int .i64 o.lo, .int .i64 o.hi, .int .u8 o.vk, .int .u64 o.vb, .string o.vs] 88 (0, 0)) ∧ wr.heap[w1.heap.size]? = some (.cells #[.int .i64 a1, .int .i64 a2, .int .i64 b1, .int .i64 b2, .int .i64 d1, .int .i64 d2, .int .i64 e1, .int .i64 e2] 120 (0, 0)) ∧ ∀ j, j < k → pick4 r0 r1 r2 r3 j = true) (fun i _ => 4 - (intOf i).toNat)
  case atStart => exact ⟨0, Nat.zero_le _, rfl, AB.out, AO.out, AS.out, fun j hj => absurd hj (Nat.not_lt_zero _)⟩
  case round =>
    obtain ⟨k, hk, rfl, hbw, hx, hs, hall⟩ := hrel
    have HW : Hid (Below w.heap.size w wr) := hbw
    have HX : Hid (wr.heap[w.heap.size]? = some (.cells #[.int .i64 o.cd, .int .i64 o.a, .int .i64 o.b, .int .i64 o.c, .int .i64 o.d, .int .i64 o.lo, .int .i64 o.hi, .int .u8 o.vk, .int .u64 o.vb, .string o.vs] 88 (0, 0))) := hx
    have HB : Hid (wr.heap[w1.heap.size]? = some (.cells #[.int .i64 a1, .int .i64 a2, .int .i64 b1, .int .i64 b2, .int .i64 d1, .int .i64 d2, .int .i64 e1, .int .i64 e2] 120 (0, 0))) := hs
    have AL : Hid (∀ j, j < k → pick4 r0 r1 r2 r3 j = true) := hall
    clear hall AS AO AB
    by_cases hlt : k < 4
    · have kk : k = 0 ∨ k = 1 ∨ k = 2 ∨ k = 3 := by omega
      clear hk hlt
      rcases kk with rfl | rfl | rfl | rfl
      · have s0 : wr.cell? ⟨w1.heap.size, 0, none⟩ = some (.int .i64 a1) := by simp [World.cell?, hs]
        have s1 : wr.cell? ⟨w1.heap.size, 1, none⟩ = some (.int .i64 a2) := by simp [World.cell?, hs]
        have ix := ix4_0 o.a o.b o.c o.d
        clear hx hs hbw
        go_wp2_with fail
        refine (H0.out _).mono ?_
        rintro e w5 ⟨rfl, hb5⟩
        have B5 : Hid (Below wr.heap.size wr w5) := hb5
        clear hb5 s0 s1
        cases r0
        · have ev : VV = false := by rw [← HV.out]; simp
          subst ev
          go_wp2
          go_ret
          exact ⟨rfl, HW.out.trans (B5.out.mono HW.out.size)⟩
        · go_wp2
          exact ⟨⟨1, by decide, rfl, HW.out.trans (B5.out.mono HW.out.size), (B5.out.block _ (blk_in HX.out)).trans HX.out, (B5.out.block _ (blk_in HB.out)).trans HB.out, fun j hj => by
            rcases Nat.lt_succ_iff_lt_or_eq.1 hj with h | rfl
            · exact AL.out j h
            · rfl⟩, by decide⟩
      · have s0 : wr.cell? ⟨w1.heap.size, 2, none⟩ = some (.int .i64 b1) := by simp [World.cell?, hs]
        have s1 : wr.cell? ⟨w1.heap.size, 3, none⟩ = some (.int .i64 b2) := by simp [World.cell?, hs]
        have ix := ix4_1 o.a o.b o.c o.d
        clear hx hs hbw
        go_wp2_with fail
        refine (H1.out _).mono ?_
        rintro e w5 ⟨rfl, hb5⟩
        have B5 : Hid (Below wr.heap.size wr w5) := hb5
        clear hb5 s0 s1
        cases r1
        · have ev : VV = false := by rw [← HV.out]; simp
          subst ev
          go_wp2
          go_ret
          exact ⟨rfl, HW.out.trans (B5.out.mono HW.out.size)⟩
        · go_wp2
          exact ⟨⟨2, by decide, rfl, HW.out.trans (B5.out.mono HW.out.size), (B5.out.block _ (blk_in HX.out)).trans HX.out, (B5.out.block _ (blk_in HB.out)).trans HB.out, fun j hj => by
            rcases Nat.lt_succ_iff_lt_or_eq.1 hj with h | rfl
            · exact AL.out j h
            · rfl⟩, by decide⟩
      · have s0 : wr.cell? ⟨w1.heap.size, 4, none⟩ = some (.int .i64 d1) := by simp [World.cell?, hs]
        have s1 : wr.cell? ⟨w1.heap.size, 5, none⟩ = some (.int .i64 d2) := by simp [World.cell?, hs]
        have ix := ix4_2 o.a o.b o.c o.d
        clear hx hs hbw
        go_wp2_with fail
        refine (H2.out _).mono ?_
        rintro e w5 ⟨rfl, hb5⟩
        have B5 : Hid (Below wr.heap.size wr w5) := hb5
        clear hb5 s0 s1
        cases r2
        · have ev : VV = false := by rw [← HV.out]; simp
          subst ev
          go_wp2
          go_ret
          exact ⟨rfl, HW.out.trans (B5.out.mono HW.out.size)⟩
        · go_wp2
          exact ⟨⟨3, by decide, rfl, HW.out.trans (B5.out.mono HW.out.size), (B5.out.block _ (blk_in HX.out)).trans HX.out, (B5.out.block _ (blk_in HB.out)).trans HB.out, fun j hj => by
            rcases Nat.lt_succ_iff_lt_or_eq.1 hj with h | rfl
            · exact AL.out j h
            · rfl⟩, by decide⟩
      · have s0 : wr.cell? ⟨w1.heap.size, 6, none⟩ = some (.int .i64 e1) := by simp [World.cell?, hs]
        have s1 : wr.cell? ⟨w1.heap.size, 7, none⟩ = some (.int .i64 e2) := by simp [World.cell?, hs]
        have ix := ix4_3 o.a o.b o.c o.d
        clear hx hs hbw
        go_wp2_with fail
        refine (H3.out _).mono ?_
        rintro e w5 ⟨rfl, hb5⟩
        have B5 : Hid (Below wr.heap.size wr w5) := hb5
        clear hb5 s0 s1
        cases r3
        · have ev : VV = false := by rw [← HV.out]; simp
          subst ev
          go_wp2
          go_ret
          exact ⟨rfl, HW.out.trans (B5.out.mono HW.out.size)⟩
        · go_wp2
          exact ⟨⟨4, by decide, rfl, HW.out.trans (B5.out.mono HW.out.size), (B5.out.block _ (blk_in HX.out)).trans HX.out, (B5.out.block _ (blk_in HB.out)).trans HB.out, fun j hj => by
            rcases Nat.lt_succ_iff_lt_or_eq.1 hj with h | rfl
            · exact AL.out j h
            · rfl⟩, by decide⟩
    · have ek : k = 4 := by omega
      subst ek
      have e0 : r0 = true := AL.out 0 (by decide)
      have e1' : r1 = true := AL.out 1 (by decide)
      have e2' : r2 = true := AL.out 2 (by decide)
      have e3 : r3 = true := AL.out 3 (by decide)
      subst e0 e1' e2' e3
      have k0 : wr.cell? ⟨w.heap.size, 0, none⟩ = some (.int .i64 o.cd) := by simp [World.cell?, hx]
      have k1 : wr.cell? ⟨w.heap.size, 1, none⟩ = some (.int .i64 o.a) := by simp [World.cell?, hx]
      have k2 : wr.cell? ⟨w.heap.size, 2, none⟩ = some (.int .i64 o.b) := by simp [World.cell?, hx]
      have k3 : wr.cell? ⟨w.heap.size, 3, none⟩ = some (.int .i64 o.c) := by simp [World.cell?, hx]
      have k4 : wr.cell? ⟨w.heap.size, 4, none⟩ = some (.int .i64 o.d) := by simp [World.cell?, hx]
      have k5 : wr.cell? ⟨w.heap.size, 5, none⟩ = some (.int .i64 o.lo) := by simp [World.cell?, hx]
      have k6 : wr.cell? ⟨w.heap.size, 6, none⟩ = some (.int .i64 o.hi) := by simp [World.cell?, hx]
      have k7 : wr.cell? ⟨w.heap.size, 7, none⟩ = some (.int .u8 o.vk) := by simp [World.cell?, hx]
      have k8 : wr.cell? ⟨w.heap.size, 8, none⟩ = some (.int .u64 o.vb) := by simp [World.cell?, hx]
      have k9 : wr.cell? ⟨w.heap.size, 9, none⟩ = some (.string o.vs) := by simp [World.cell?, hx]
      clear hx hs hbw hlt hk H0 H1 H2 H3
      go_wp2_with fail
      refine (M1.out _).mono ?_
      rintro e w5 ⟨rfl, hb5⟩
      have B5 : Hid (Below wr.heap.size wr w5) := hb5
      have X5 := (hb5.block _ (blk_in HX.out)).trans HX.out
      clear hb5 k0 k1 k2 k3 k4 k5 k6 k7 k8 k9
      have k0 : w5.cell? ⟨w.heap.size, 0, none⟩ = some (.int .i64 o.cd) := by simp [World.cell?, X5]
      have k1 : w5.cell? ⟨w.heap.size, 1, none⟩ = some (.int .i64 o.a) := by simp [World.cell?, X5]
      have k2 : w5.cell? ⟨w.heap.size, 2, none⟩ = some (.int .i64 o.b) := by simp [World.cell?, X5]
      have k3 : w5.cell? ⟨w.heap.size, 3, none⟩ = some (.int .i64 o.c) := by simp [World.cell?, X5]
      have k4 : w5.cell? ⟨w.heap.size, 4, none⟩ = some (.int .i64 o.d) := by simp [World.cell?, X5]
      have k5 : w5.cell? ⟨w.heap.size, 5, none⟩ = some (.int .i64 o.lo) := by simp [World.cell?, X5]
      have k6 : w5.cell? ⟨w.heap.size, 6, none⟩ = some (.int .i64 o.hi) := by simp [World.cell?, X5]
      have k7 : w5.cell? ⟨w.heap.size, 7, none⟩ = some (.int .u8 o.vk) := by simp [World.cell?, X5]
      have k8 : w5.cell? ⟨w.heap.size, 8, none⟩ = some (.int .u64 o.vb) := by simp [World.cell?, X5]
      have k9 : w5.cell? ⟨w.heap.size, 9, none⟩ = some (.string o.vs) := by simp [World.cell?, X5]
      clear X5
      cases q1
      · have ev : VV = false := by rw [← HV.out]; simp
        subst ev
        go_wp2
        go_ret
        exact ⟨rfl, HW.out.trans (B5.out.mono HW.out.size)⟩
      go_wp2_with fail
      refine (M2.out _).mono ?_
      rintro e w6 ⟨rfl, hb6⟩
      have B6 : Hid (Below wr.heap.size wr w6) := bl_tr B5.out hb6
      clear hb6 k0 k1 k2 k3 k4 k5 k6 k7 k8 k9
      have ev : VV = q2 := by rw [← HV.out]; simp
      subst ev
      cases VV
      all_goals
        go_wp2
        go_ret
        exact ⟨rfl, HW.out.trans (B6.out.mono HW.out.size)⟩
end Go.Proofs.YtkickdmomompjaaGreat
