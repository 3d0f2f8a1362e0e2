/- A slice of bytes that is one's own; no statement of the seat is proved here. -/
import Derived.Test.YtahgnmbkobiclaaGreatAwAJ
import Derived.Test.YtahgnmbkobiclaaGreatCkIJ
import Derived.Lib.Builder
import Derived.Lib.AppendStr
import Derived.Laws.CopyOwn
import Derived.Maps.AppendAt
import Derived.Test.YtahgnmbkobiclaaGreatJnA1
namespace Go.Proofs.YtahgnmbkobiclaaGreat
set_option linter.unusedVariables false
open Go.RowKit
theorem wrap_u8 (n : Int) : 0 ≤ IntKind.u8.wrap n ∧ IntKind.u8.wrap n < 256 := by
  show 0 ≤ n % 256 ∧ n % 256 < 256
  omega
theorem bits_u8 (op : BinOp) (x y : Int) : 0 ≤ bits op .u8 x y ∧ bits op .u8 x y < 256 := wrap_u8 _
set_option maxRecDepth 20000 in
set_option maxHeartbeats 4000000 in
theorem sumOf_of (x : Option Addr) (n c : Nat) (w : World) (hn : n ≤ 1000) (hc : ∀ k, k < n → ∃ a b, x = some a ∧ a.block < w.heap.size ∧ w.cell? (a.add k) = some (.int .u8 b)) :
    Calls Tryz.prog 20 #[.slice x n c] w fun e w' => (∃ b0 b1 b2 b3, e = .returned (.agg #[.int .u8 b0, .int .u8 b1, .int .u8 b2, .int .u8 b3])) ∧ Below w.heap.size w w' := by
  have HC : Hid (∀ k, k < n → ∃ a b, x = some a ∧ a.block < w.heap.size ∧ w.cell? (a.add k) = some (.int .u8 b)) := hc
  have HN : Hid (n ≤ 1000) := hn
  clear hc hn
  obtain ⟨AW, eW⟩ : ∃ AW, AW = w.alloc (.cells #[.int .u8 0, .int .u8 0, .int .u8 0, .int .u8 0] 58 (0, 0)) := ⟨_, rfl⟩
  have AB : Hid (Below w.heap.size w AW) := by rw [eW]; exact (Below.refl _ _).alloc (Nat.le_refl _) _
  have AX : Hid (AW.heap[w.heap.size]? = some (.cells #[.int .u8 0, .int .u8 0, .int .u8 0, .int .u8 0] 58 (0, 0))) := by rw [eW]; exact heap_alloc_last _ _
  go_enter Tryz.func20, Tryz.ntmps20
  go_upto_region 1 with fail
  rw [← eW]
  clear eW
  go_wp2_with (go_at_call 42; refine (byteChanges_of _).mono ?_)
  first | (rintro e w1 ⟨⟨cs, he, hu⟩, hb1⟩) | (rintro e w1 cs he hu hb1) | (rintro e w1 ⟨cs, he, hu⟩ hb1)
  subst he
  have U : Hid (U256 cs) := hu
  have B1 : Hid (Below AW.heap.size AW w1) := hb1
  clear hu hb1
  have Z1 : Hid ((w1.alloc (.cells Tryz.zeroCells93 93)).heap[w1.heap.size]? = some (.cells Tryz.zeroCells93 93 (0, 0))) := heap_alloc_last _ _
  go_wp2_with (refine wpList_store_row rfl 93 _ _ rfl w1.heap.size cs rfl rfl _ _ Z1.out (by rw [U.out.1]; exact u256_info) (by rw [U.out.1]; exact u256_zero.1) (u256_one U.out) ?_)
  obtain ⟨AR, eR⟩ : ∃ AR, AR = (w1.alloc (.cells Tryz.zeroCells93 93)).setRow w1.heap.size cs := ⟨_, rfl⟩
  have T1 : Hid (Tb w1.heap.size AR) := by rw [eR]; exact ⟨cs, setRow_heap _ _ _ _ _ _ Z1.out, U.out⟩
  have AR1 : Hid (Below w.heap.size w AR) := by rw [eR]; exact (AB.out.trans ((B1.out.trans (((Below.refl _ _).alloc (Nat.le_refl _) _).mono B1.out.size)).mono AB.out.size)).trans ⟨rfl, rfl, rfl, by simp [World.setRow], fun k hk => setRow_other _ _ _ _ (by have := AB.out.size; have := B1.out.size; omega)⟩
  have AX1 : Hid (AR.heap[w.heap.size]? = some (.cells #[.int .u8 0, .int .u8 0, .int .u8 0, .int .u8 0] 58 (0, 0))) := by
    have h1 : w.heap.size < AW.heap.size := blk_in AX.out
    have h2 := B1.out.size
    rw [eR, setRow_other _ _ _ _ (by omega), Below.heap_alloc _ _ _ (by omega)]
    exact (B1.out.block _ h1).trans AX.out
  try rw [← eR]
  clear eR
  go_loopw [4, 10] (fun s i wr => ∃ (k : Nat) (v : Int), k ≤ n ∧ s = .int .u32 v ∧ i = .int .i64 k ∧ wr = AR) (fun _ i _ => n - (intOf i).toNat)
  case atStart => exact ⟨0, _, Nat.zero_le _, rfl, rfl, rfl⟩
  case round =>
    obtain ⟨k, v, hk, rfl, rfl, hw⟩ := hrel
    rw [hw]
    clear hw wr
    by_cases hlt : k < n
    · obtain ⟨a, b, rfl, hab, hcell⟩ := HC.out k hlt
      have f0 : AR.cell? (a.add k) = some (.int .u8 b) := (AR1.out.cell (by rw [add_block]; exact hab)).trans hcell
      have kl : (k : Int) < n := by omega
      have LT : Hid (k < n) := hlt
      have ek : wrap64 ((k : Int) + 1) = (k : Int) + 1 := by have := HN.out; unfold wrap64; omega
      obtain ⟨x0, x1⟩ := bits_u8 .xor (v % 256) b
      obtain ⟨m, fm⟩ := T1.out.cell (bits .xor .u8 (v % 256) b).toNat (by omega)
      clear hlt hab hcell hk
      go_wp2
      try rw [ek]
      exact ⟨⟨k + 1, _, Nat.succ_le_of_lt LT.out, rfl, rfl, trivial⟩, msr LT.out⟩
    · have kl : ¬ (k : Int) < n := by omega
      clear hlt hk
      go_wp2_with (refine wpList_store_row rfl 58 _ _ rfl w.heap.size _ rfl rfl _ _ AX1.out (by kernel_rfl) rfl (by kernel_rfl) ?_)
      refine bodyPost_ret (v := .agg _) (results_cell_row Tryz.results20 _ _ w.heap.size _ _ (0, 0) _ (by first | rfl | simp [Act.put]) (setRow_heap _ _ _ _ _ _ AX1.out) Tryz.underlying58 rfl (by kernel_rfl)) rfl ⟨⟨_, _, _, _, rfl⟩, ?_⟩
      exact row_bel AR1.out (Nat.le_refl _) _
end Go.Proofs.YtahgnmbkobiclaaGreat
namespace Go.Proofs.YtahgnmbkobiclaaGreat
set_option linter.unusedVariables false
open Go.RowKit
/-- Are these bytes? -/
def U8s (bs : List Value) : Prop := ∀ v ∈ bs, ∃ n, v = .int .u8 n
theorem U8s.app {a b : List Value} (h : U8s a) (k : U8s b) : U8s (a ++ b) := fun v hv => by rcases List.mem_append.1 hv with q | q; exact h v q; exact k v q
theorem U8s.str (s : ByteArray) : U8s (Lib.strCells s) := fun v hv => by
  unfold Lib.strCells at hv
  obtain ⟨b, _, rfl⟩ := List.mem_map.1 hv
  exact ⟨_, rfl⟩
/-- A writer in a block of its own, which has so many bytes. -/
def Wq (B g : Nat) (bs : List Value) (V : World) : Prop := B ≤ g ∧ U8s bs ∧ ∃ v, V.heap[g]? = some (.cells #[v] 91 (0, 0)) ∧ V.ownsRow B 5 1 v bs.length bs ∧ v.ownBlock ≠ some g
theorem u8_info : ∃ i, Tryz.prog.info? 5 = some i ∧ i.zero = some (.int .u8 0) ∧ i.size = 1 ∧ i.bytes = 1 := by
  obtain ⟨i, hi, hz⟩ := Option.map_eq_some_iff.1 (show (Tryz.prog.info? 5).map (fun i => (i.zero, i.size, i.bytes)) = some (some (.int .u8 0), 1, 1) by kernel_rfl)
  simp only [Prod.mk.injEq] at hz
  exact ⟨i, hi, hz.1, hz.2.1, hz.2.2⟩
theorem Wq.put {B g : Nat} {v v' : Value} {bs' : List Value} {V : World} (hB : B ≤ g) (hb : V.heap[g]? = some (.cells #[v] 91 (0, 0))) (hown : V.ownsRow B 5 1 v' bs'.length bs') (hu : U8s bs') : Wq B g bs' (V.setCell ⟨g, 0, none⟩ v') := by
  have hne : v'.ownBlock ≠ some g := Lib.ownBlock_ne hown hb (by decide)
  refine ⟨hB, hu, v', ?_, ?_, hne⟩
  · simp [World.setCell, Array.getElem?_modify, hb]
  · exact hown.kept (row := some g) ⟨rfl, rfl, rfl, by simp [World.setCell], fun k _ hk => Below.heap_setCell _ _ _ _ (fun e => hk (by simp [e]))⟩ (Or.inr hne)
theorem Wq.shape {B g : Nat} {bs : List Value} {V : World} (h : Wq B g bs V) : ∃ x n c, V.heap[g]? = some (.cells #[.slice x n c] 91 (0, 0)) ∧ V.ownsRow B 5 1 (.slice x n c) bs.length bs := by
  obtain ⟨_, _, v, h1, h2, _⟩ := h
  rcases h2.2 with ⟨rfl, h0⟩ | ⟨k, cap, cur, rfl, hx⟩
  · exact ⟨_, _, _, h1, h2⟩
  · exact ⟨_, _, _, h1, h2⟩
theorem Wq.below {B g : Nat} {bs : List Value} {V V' : World} (h : Wq B g bs V) (hb : Below V.heap.size V V') : Wq B g bs V' := by
  obtain ⟨hB, hu, v, h1, h2, h3⟩ := h
  exact ⟨hB, hu, v, (hb.block _ (blk_in h1)).trans h1, h2.kept (row := none) ⟨hb.os, hb.tape, hb.output, hb.size, fun k hk _ => hb.block k hk⟩ (by rcases h : v.ownBlock with _ | q <;> simp), h3⟩
theorem Wq.lt {B g : Nat} {bs : List Value} {V : World} (h : Wq B g bs V) : B ≤ g ∧ g < V.heap.size := ⟨h.1, by obtain ⟨_, _, v, h1, _⟩ := h; exact blk_in h1⟩
theorem Wq.u8 {B g : Nat} {bs : List Value} {V : World} (h : Wq B g bs V) : U8s bs := h.2.1
/-- Blocks of other types than bytes' and the writer's stay. -/
def KpT (w w' : World) : Prop := ∀ (k : Nat) cs T fr, w.heap[k]? = some (.cells cs T fr) → T ≠ 5 → T ≠ 91 → w'.heap[k]? = some (.cells cs T fr)
/-- What is below B stays, and blocks of other types do. -/
structure Bq (B : Nat) (w w' : World) : Prop where
  b : Below B w w'
  k : KpT w w'
theorem Bq.refl (B : Nat) (w : World) : Bq B w w := ⟨Below.refl _ _, fun _ _ _ _ h _ _ => h⟩
theorem Bq.trans {B : Nat} {a b c : World} (h : Bq B a b) (k : Bq B b c) : Bq B a c := ⟨h.b.trans k.b, fun n cs T fr q1 q2 q3 => k.k n cs T fr (h.k n cs T fr q1 q2 q3) q2 q3⟩
theorem Bq.up {B : Nat} {a b : World} (h : Below a.heap.size a b) (hB : B ≤ a.heap.size) : Bq B a b := ⟨h.mono hB, fun n cs T fr q1 _ _ => (h.block n (blk_in q1)).trans q1⟩
theorem Bq.grown {B : Nat} {a b c : World} {v : Value} {n : Nat} {xs : List Value} (h : Bq B a b) (ho : b.ownsRow B 5 1 v n xs) (hg : b.grownBy c v.ownBlock) (hB : B ≤ b.heap.size) : Bq B a c :=
  h.trans ⟨(Below.refl B b).grown hg hB (fun k hk => (ho.lt k hk).1), fun k cs T fr q1 q2 q3 => by
    rw [hg.block k (blk_in q1) (fun e => Lib.ownBlock_ne ho q1 q2 e.symm)]
    exact q1⟩
theorem Bq.set {B g : Nat} {a b : World} {cs : Array Value} (h : Bq B a b) (hg : b.heap[g]? = some (.cells cs 91 (0, 0))) (hB : B ≤ g) (j : Nat) (v : Value) : Bq B a (b.setCell ⟨g, j, none⟩ v) :=
  h.trans ⟨(Below.refl B b).setCell (p := ⟨g, j, none⟩) hB _, fun k cs T fr q1 q2 q3 => by
    have hne : k ≠ g := fun e => by rw [e, hg] at q1; cases q1; exact q3 rfl
    rw [Below.heap_setCell _ _ _ _ hne]
    exact q1⟩
set_option maxRecDepth 20000 in
set_option maxHeartbeats 4000000 in
theorem raw_of (B g : Nat) (bs : List Value) (b : Int) (w : World) (h : Wq B g bs w) (hl : bs.length ≤ 70368744177664) :
    Calls Tryz.prog 116 #[.pointer (some ⟨g, 0, none⟩), .int .u8 b] w fun e w' => e = .returned (.tuple #[]) ∧ Wq B g (bs ++ [.int .u8 b]) w' ∧ Bq B w w' := by
  obtain ⟨i0, hi, hz0, hz1, hz2⟩ := u8_info
  have hB := h.lt
  have hU := h.u8
  obtain ⟨x, n, c, hg, hown⟩ := h.shape
  have c0 : w.cell? ⟨g, 0, none⟩ = some (.slice x n c) := by simp [World.cell?, hg]
  have HG : Hid (w.heap[g]? = some (.cells #[.slice x n c] 91 (0, 0))) := hg
  have HO : Hid (w.ownsRow B 5 1 (.slice x n c) bs.length bs) := hown
  have NE : Hid ((Value.slice x n c).ownBlock ≠ some g) := Lib.ownBlock_ne hown hg (by decide)
  clear h hg hown
  have GA : Hid (∀ X : Obj, Below w.heap.size w (w.alloc X)) := fun X => (Below.refl _ _).alloc (Nat.le_refl _) _
  have OA : Hid (∀ X : Obj, (w.alloc X).ownsRow B 5 1 (.slice x n c) bs.length bs) := fun X => HO.out.kept (row := none) ⟨rfl, rfl, rfl, (GA.out X).size, fun k hk _ => (GA.out X).block k hk⟩ (by rcases h : (Value.slice x n c).ownBlock with _ | q <;> simp)
  go_enter Tryz.func116, Tryz.ntmps116
  go_wp2_with (at_builtin; refine wpList_append_own_at _ rfl _ _ 22 rfl B 5 i0 _ 1 1 Tryz.underlying22 hi hz0 hz1 hz2 rfl (by decide) _ bs.length bs rfl (OA.out _) ⟨w.heap.size, 0, none⟩ 1 1 [.int .u8 b] rfl rfl (cell_one_new _ _ _) (by simp [Value.oneCell']) (by unfold maxLen; omega) (by omega) (by simp; omega) ?_)
  intro v' w1 hown' hgrow hnil hat'
  have O1 : Hid (w1.ownsRow B 5 1 v' (bs ++ [Value.int .u8 b]).length (bs ++ [Value.int .u8 b])) := by show World.ownsRow _ _ _ _ _ _ _; rw [List.length_append]; exact hown'
  have hlt : g < (w.alloc (.cells #[.int .u8 b] 5)).heap.size := by simp; omega
  have G1 : Hid (w1.heap[g]? = some (.cells #[.slice x n c] 91 (0, 0))) := by
    rw [hgrow.block g hlt (fun e => NE.out e.symm), Below.heap_alloc _ _ _ hB.2]
    exact HG.out
  have B1 : Hid (Bq B w w1) := (Bq.up (GA.out _) (by omega)).grown (OA.out _) hgrow (by simp; omega)
  have d0 : w1.cell? ⟨g, 0, none⟩ = some (.slice x n c) := by simp [World.cell?, G1.out]
  have d1 : w1.frozen? ⟨g, 0, none⟩ = false := by simp [World.frozen?, G1.out]
  obtain ⟨y, k, q, rfl⟩ : ∃ y k q, v' = .slice y k q := by
    rcases hown'.2 with ⟨hv, _⟩ | ⟨_, cap, cur, hv, _⟩
    · exact ⟨_, _, _, hv⟩
    · exact ⟨_, _, _, hv⟩
  clear hown' hgrow hnil hat' hlt c0 GA OA
  go_wp2
  go_end0
  exact ⟨rfl, Wq.put hB.1 G1.out O1.out (hU.app (fun v hv => ⟨b, by simpa using hv⟩)), B1.out.set G1.out hB.1 _ _⟩
set_option maxRecDepth 20000 in
set_option maxHeartbeats 4000000 in
theorem number_of (B g : Nat) (bs : List Value) (v : Int) (w : World) (h : Wq B g bs w) (hl : bs.length ≤ 1000) :
    Calls Tryz.prog 115 #[.pointer (some ⟨g, 0, none⟩), .int .i64 v] w fun e w' => e = .returned (.tuple #[]) ∧ (∃ l : List Value, l.length = 8 ∧ Wq B g (bs ++ l) w') ∧ Bq B w w' := by
  have H : Hid (Wq B g bs w) := h
  have HL : Hid (bs.length ≤ 1000) := hl
  clear h hl
  go_enter Tryz.func115, Tryz.ntmps115
  go_upto_region 1 with fail
  go_loopw [5] (fun i wr => ∃ (k : Nat) (l : List Value), k ≤ 8 ∧ i = .int .i64 k ∧ l.length = k ∧ Wq B g (bs ++ l) wr ∧ Bq B w wr) (fun i _ => 8 - (intOf i).toNat)
  case atStart => exact ⟨0, [], Nat.zero_le _, rfl, rfl, by rw [List.append_nil]; exact H.out, Bq.refl _ _⟩
  case round =>
    obtain ⟨k, l, hk, rfl, hll, hw, hb⟩ := hrel
    have HW : Hid (Wq B g (bs ++ l) wr) := hw
    have HB : Hid (Bq B w wr) := hb
    have LL : Hid (l.length = k) := hll
    clear hw hb hll
    by_cases hlt : k < 8
    · have kl : (k : Int) < 8 := by omega
      have LT : Hid (k < 8) := hlt
      have ek : wrap64 ((k : Int) + 1) = (k : Int) + 1 := by unfold wrap64; omega
      have e8 : wrap64 (8 * (k : Int)) = 8 * (k : Int) := by unfold wrap64; omega
      have p8 : ¬ (8 * (k : Int)) < 0 := by omega
      have q8 : (0 : Int) ≤ 8 * (k : Int) := by omega
      clear hlt
      go_wp2_with (go_at_call 116; refine (raw_of B g (bs ++ l) _ _ HW.out (by rw [List.length_append, LL.out]; have := HL.out; omega)).mono ?_)
      intro e w1 he h1 hb1
      subst he
      have H1 : Hid (Wq B g _ w1) := h1
      have B1 : Hid (Bq B w w1) := HB.out.trans hb1
      clear h1 hb1
      go_wp2
      try rw [ek]
      exact ⟨⟨k + 1, l ++ [_], Nat.succ_le_of_lt LT.out, rfl, (by rw [List.length_append, LL.out]; rfl), (by first | exact H1.out | (rw [← List.append_assoc]; exact H1.out)), B1.out⟩, msr LT.out⟩
    · have kl : ¬ (k : Int) < 8 := by omega
      have ek : k = 8 := by omega
      subst ek
      clear hlt hk
      go_wp2
      go_end0
      exact ⟨rfl, ⟨l, LL.out, HW.out⟩, HB.out⟩
set_option maxRecDepth 20000 in
set_option maxHeartbeats 4000000 in
theorem text_of (B g : Nat) (bs : List Value) (s : ByteArray) (w : World) (h : Wq B g bs w) (hl : bs.length ≤ 900) (hs : s.size ≤ 100) :
    Calls Tryz.prog 77 #[.pointer (some ⟨g, 0, none⟩), .string s] w fun e w' => e = .returned (.tuple #[]) ∧ (∃ l : List Value, l.length = 8 ∧ Wq B g (bs ++ l ++ Lib.strCells s) w') ∧ Bq B w w' := by
  obtain ⟨i0, hi, hz0, hz1, hz2⟩ := u8_info
  have H : Hid (Wq B g bs w) := h
  have HB := h.lt
  have HL : Hid (bs.length ≤ 900) := hl
  have HS : Hid (s.size ≤ 100) := hs
  clear h hl hs
  go_enter Tryz.func77, Tryz.ntmps77
  go_wp2_with (go_at_call 115; refine (number_of B g bs _ _ H.out (by have := HL.out; omega)).mono ?_)
  first | (rintro e w1 ⟨he, ⟨l, hll, h1⟩, hb1⟩) | (rintro e w1 he ⟨⟨l, hll, h1⟩, hb1⟩) | (rintro e w1 he ⟨l, hll, h1⟩ hb1) | (rintro e w1 he l hll h1 hb1)
  subst he
  have LL : Hid (l.length = 8) := hll
  have B1 : Hid (Bq B w w1) := hb1
  have HB1 := h1.lt
  have HU1 := h1.u8
  obtain ⟨x, n, c, hg, hown⟩ := h1.shape
  have c0 : w1.cell? ⟨g, 0, none⟩ = some (.slice x n c) := by simp [World.cell?, hg]
  have HG : Hid (w1.heap[g]? = some (.cells #[.slice x n c] 91 (0, 0))) := hg
  have HO : Hid (w1.ownsRow B 5 1 (.slice x n c) (bs ++ l).length (bs ++ l)) := hown
  have NE : Hid ((Value.slice x n c).ownBlock ≠ some g) := Lib.ownBlock_ne hown hg (by decide)
  have SZ : Hid ((bs ++ l).length ≤ 1000) := by show _ ≤ _; rw [List.length_append, LL.out]; have := HL.out; omega
  clear h1 hg hown hb1 hll
  go_wp2_with (at_builtin; refine Lib.wpList_append_own_string _ rfl _ _ 22 9 rfl B 5 i0 Tryz.underlying22 Tryz.underlying9 hi hz0 hz1 hz2 _ _ _ rfl HO.out s rfl ?c3 ?c4 ?c5 ?_)
  case c3 => have := SZ.out; have := HS.out; unfold maxLen; omega
  case c4 => have := SZ.out; have := HS.out; omega
  case c5 => omega
  intro v' w2 hown' hgrow hnil
  have O1 : Hid (w2.ownsRow B 5 1 v' (bs ++ l ++ Lib.strCells s).length (bs ++ l ++ Lib.strCells s)) := by show World.ownsRow _ _ _ _ _ _ _; first | (rw [List.length_append, Lib.strCells_length]; exact hown') | (rw [List.length_append, List.length_append, Lib.strCells_length, List.append_assoc]; exact hown')
  have G1 : Hid (w2.heap[g]? = some (.cells #[.slice x n c] 91 (0, 0))) := by
    rw [hgrow.block g HB1.2 (fun e => NE.out e.symm)]
    exact HG.out
  have B2 : Hid (Bq B w w2) := B1.out.grown HO.out hgrow (by omega)
  have d0 : w2.cell? ⟨g, 0, none⟩ = some (.slice x n c) := by simp [World.cell?, G1.out]
  have d1 : w2.frozen? ⟨g, 0, none⟩ = false := by simp [World.frozen?, G1.out]
  obtain ⟨y, k, q, rfl⟩ : ∃ y k q, v' = .slice y k q := by
    rcases hown'.2 with ⟨hv, _⟩ | ⟨_, cap, cur, hv, _⟩
    · exact ⟨_, _, _, hv⟩
    · exact ⟨_, _, _, hv⟩
  clear hown' hgrow hnil c0
  go_wp2
  go_end0
  exact ⟨rfl, ⟨l, LL.out, Wq.put HB.1 G1.out O1.out (HU1.app (U8s.str s))⟩, B2.out.set G1.out HB.1 _ _⟩
end Go.Proofs.YtahgnmbkobiclaaGreat
namespace Go.Proofs.YtahgnmbkobiclaaGreat
set_option linter.unusedVariables false
open Go.RowKit
/-- Bytes as values. -/
def bvL (l : List Nat) : List Value := l.map fun b : Nat => Value.int .u8 (b : Int)
theorem bvL_app (a b : List Nat) : bvL (a ++ b) = bvL a ++ bvL b := by simp [bvL]
theorem bvL_len (a : List Nat) : (bvL a).length = a.length := by simp [bvL]
theorem by_nat (x : Int) : ((x % (256 : Int)).toNat : Int) = x % 256 := Int.toNat_of_nonneg (Int.emod_nonneg _ (by decide))
end Go.Proofs.YtahgnmbkobiclaaGreat
namespace Go.Proofs.YtahgnmbkobiclaaGreat
set_option linter.unusedVariables false
open Go.RowKit
/-- A slice of bytes that is one's own. -/
def Sb (B : Nat) (l : List Nat) (v : Value) (V : World) : Prop := V.ownsRow B 5 1 v l.length (bvL l)
theorem Sb.form {B : Nat} {l : List Nat} {v : Value} {V : World} (h : Sb B l v V) : ∃ x n c, v = .slice x n c := by
  rcases h.2 with ⟨hv, _⟩ | ⟨_, cap, cur, hv, _⟩
  · exact ⟨_, _, _, hv⟩
  · exact ⟨_, _, _, hv⟩
theorem Sb.below {B : Nat} {l : List Nat} {v : Value} {V V' : World} (h : Sb B l v V) (hb : Below V.heap.size V V') : Sb B l v V' :=
  World.ownsRow.kept (row := none) h ⟨hb.os, hb.tape, hb.output, hb.size, fun k hk _ => hb.block k hk⟩ (by rcases h : v.ownBlock with _ | q <;> simp)
theorem Sb.app {B : Nat} {l : List Nat} {v : Value} {V : World} {b : List Nat} {n : Nat} {xs : List Value} (h : V.ownsRow B 5 1 v n xs) (hn : n = l.length + b.length) (hx : xs = bvL l ++ bvL b) : Sb B (l ++ b) v V := by
  unfold Sb
  rw [bvL_app, List.length_append, ← hn, ← hx]
  exact h
end Go.Proofs.YtahgnmbkobiclaaGreat
