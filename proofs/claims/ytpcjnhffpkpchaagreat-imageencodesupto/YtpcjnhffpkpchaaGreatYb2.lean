/- image: a program that writes nothing is told (the statements' own question); no statement of the seat is proved here. -/
import Derived.Test.YtpcjnhffpkpchaaGreatCkIY
import Derived.Deep.MidRow
import Derived.Deep.DeepCutAuto
import Derived.Lib.Builder
import Derived.Lib.AppendStr
import Derived.Laws.CopyOwn
import Derived.Maps.AppendAt
import Derived.Test.YtpcjnhffpkpchaaGreatYc6
import Derived.Deep.RegionLaw
namespace Go.Proofs.YtpcjnhffpkpchaaGreat
set_option linter.unusedVariables false
open Go.RowKit
/-- Are these 256 numbers? -/
def U256 (cs : Array Value) : Prop := cs.size = 256 ∧ ∀ j : Nat, j < 256 → ∃ n, cs[j]? = some (.int .u32 n)
/-- A block that has 256 numbers. -/
def Tb (g : Nat) (V : World) : Prop := ∃ cs, V.heap[g]? = some (.cells cs 78 (0, 0)) ∧ U256 cs
theorem u256_zero : U256 Tryz.zeroCells78 := by
  rw [show Tryz.zeroCells78 = Array.replicate 256 (.int .u32 0) by kernel_rfl]
  exact ⟨by simp, fun j hj => ⟨0, by simp [hj]⟩⟩
theorem u256_one {cs : Array Value} (h : U256 cs) : cs.all (·.oneCell') = true := by
  rw [Array.all_eq_true]
  intro j hj
  obtain ⟨n, hn⟩ := h.2 j (by rw [← h.1]; exact hj)
  rw [Array.getElem?_eq_getElem hj, Option.some.injEq] at hn
  rw [hn]; rfl
theorem u256_info : (Tryz.prog.info? 78).map (·.size) = some 256 := by kernel_rfl
theorem u256_set {cs : Array Value} (h : U256 cs) (k : Nat) (n : Int) : U256 (cs.setIfInBounds k (.int .u32 n)) := by
  refine ⟨by simp [h.1], fun j hj => ?_⟩
  by_cases e : k = j
  · subst e
    exact ⟨n, by simp [h.1, hj]⟩
  · obtain ⟨q, hq⟩ := h.2 j hj
    exact ⟨q, by simp [e, hq]⟩
theorem Tb.cell {g : Nat} {V : World} (h : Tb g V) (k : Nat) (hk : k < 256) : ∃ n, V.cell? ⟨g, k, none⟩ = some (.int .u32 n) := by
  obtain ⟨cs, h1, h2, h3⟩ := h
  obtain ⟨n, hn⟩ := h3 k hk
  exact ⟨n, by simp [World.cell?, h1, hn]⟩
theorem Tb.set {g : Nat} {V : World} (h : Tb g V) (k : Nat) (n : Int) : Tb g (V.setCell ⟨g, k, none⟩ (.int .u32 n)) := by
  obtain ⟨cs, h1, h2⟩ := h
  exact ⟨_, by simp [World.setCell, Array.getElem?_modify, h1], u256_set h2 k n⟩
theorem Tb.other {g g' : Nat} {V : World} (h : Tb g V) (hne : g ≠ g') (k : Nat) (v : Value) : Tb g (V.setCell ⟨g', k, none⟩ v) := by
  obtain ⟨cs, h1, h2⟩ := h
  exact ⟨cs, by rw [Below.heap_setCell _ _ _ _ hne]; exact h1, h2⟩
theorem Tb.frozen {g : Nat} {V : World} (h : Tb g V) (k : Nat) : V.frozen? ⟨g, k, none⟩ = false := by
  obtain ⟨cs, h1, h2⟩ := h
  simp [World.frozen?, h1]
theorem Tb.below {g : Nat} {V V' : World} (h : Tb g V) (hb : Below V.heap.size V V') : Tb g V' := by
  obtain ⟨cs, h1, h2⟩ := h
  exact ⟨cs, (hb.block _ (blk_in h1)).trans h1, h2⟩
set_option maxRecDepth 20000 in
set_option maxHeartbeats 4000000 in
theorem byteChanges_of (w : World) : Calls Tryz.prog 34 #[] w fun e w' => (∃ cs : Array Value, e = .returned (.agg cs) ∧ U256 cs) ∧ Below w.heap.size w w' := by
  obtain ⟨AW, eW⟩ : ∃ AW, AW = (w.alloc (.cells Tryz.zeroCells78 78)).alloc (.cells Tryz.zeroCells78 78) := ⟨_, rfl⟩
  have T0 : Hid (Tb w.heap.size AW) := by rw [eW]; exact ⟨_, (tv_at w _ _).1, u256_zero⟩
  have T1 : Hid (Tb (w.heap.size + 1) AW) := by rw [eW]; exact ⟨_, (tv_at w _ _).2, u256_zero⟩
  have AB : Hid (Below w.heap.size w AW) := by rw [eW]; exact ((Below.refl _ _).alloc (Nat.le_refl _) _).alloc (by simp) _
  go_enter Tryz.func34, Tryz.ntmps34
  go_upto_region 2 with fail
  rw [← eW]
  clear eW
  go_upto_region 3 with fail
  go_loopw [5] (fun i wr => ∃ k : Nat, k ≤ 256 ∧ i = .int .i64 k ∧ Below w.heap.size w wr ∧ Tb w.heap.size wr ∧ Tb (w.heap.size + 1) wr) (fun i _ => 256 - (intOf i).toNat)
  case atStart => exact ⟨0, Nat.zero_le _, rfl, AB.out, T0.out, T1.out⟩
  case round =>
    obtain ⟨k, hk, rfl, hbw, h0, h1⟩ := hrel
    have HW : Hid (Below w.heap.size w wr) := hbw
    have H0 : Hid (Tb w.heap.size wr) := h0
    have H1 : Hid (Tb (w.heap.size + 1) wr) := h1
    clear hbw h0 h1 T0 T1 AB
    by_cases hlt : k < 256
    · have kl : (k : Int) < 256 := by omega
      have LT : Hid (k < 256) := hlt
      have ek : wrap64 ((k : Int) + 1) = (k : Int) + 1 := by unfold wrap64; omega
      clear hlt
      go_upto_region 6 with fail
      go_upto_region 7 with fail
      obtain ⟨WO, eO⟩ : ∃ W, W = wr := ⟨_, rfl⟩
      subst eO
      go_loopw [3, 10] (fun c j wr => ∃ (q : Nat) (n : Int), q ≤ 8 ∧ c = .int .u32 n ∧ j = .int .i64 q ∧ wr = WO) (fun _ j _ => 8 - (intOf j).toNat)
      case atStart => exact ⟨0, _, Nat.zero_le _, rfl, rfl, rfl⟩
      case round =>
        obtain ⟨q, n, hq, rfl, rfl, hw⟩ := hrel
        rw [hw]
        clear hw wr
        by_cases qlt : q < 8
        · have ql : (q : Int) < 8 := by omega
          have QL : Hid (q < 8) := qlt
          have eq1 : wrap64 ((q : Int) + 1) = (q : Int) + 1 := by unfold wrap64; omega
          clear qlt hq
          go_upto_region 8 with fail
          go_cut [4] (fun s4 wx => ∃ b : Bool, s4 = .bool b ∧ wx = WO)
          case first =>
            go_wp2
            go_meet
            case rel => exact ⟨_, rfl, rfl⟩
          case rest =>
            obtain ⟨b, rfl, hc⟩ := hcut
            rw [hc]
            clear hc wc
            cases b
            all_goals
              go_wp2
              try rw [eq1]
              refine ⟨?_, msr QL.out⟩
              exact ⟨q + 1, _, Nat.succ_le_of_lt QL.out, rfl, rfl, trivial⟩
        · have ql : ¬ (q : Int) < 8 := by omega
          clear qlt hq
          obtain ⟨n0, f0⟩ := H1.out.cell k LT.out
          have fz := H1.out.frozen k
          have S0 : Hid (∀ x, Tb w.heap.size (WO.setCell ⟨w.heap.size + 1, k, none⟩ (.int .u32 x)) ∧ Tb (w.heap.size + 1) (WO.setCell ⟨w.heap.size + 1, k, none⟩ (.int .u32 x)) ∧ Below w.heap.size w (WO.setCell ⟨w.heap.size + 1, k, none⟩ (.int .u32 x))) := fun x => ⟨H0.out.other (by omega) _ _, H1.out.set _ _, HW.out.setCell (p := ⟨w.heap.size + 1, k, none⟩) (Nat.le_succ _) _⟩
          go_wp2
          try rw [ek]
          refine ⟨?_, msr LT.out⟩
          first
            | exact ⟨k + 1, Nat.succ_le_of_lt LT.out, rfl, (S0.out _).2.2, (S0.out _).1, (S0.out _).2.1⟩
            | ((repeat apply Exists.intro); refine ⟨?_, rfl⟩; exact ⟨k + 1, Nat.succ_le_of_lt LT.out, rfl, (S0.out _).2.2, (S0.out _).1, (S0.out _).2.1⟩)
    · have kl : ¬ (k : Int) < 256 := by omega
      go_upto_region 15 with fail
      obtain ⟨cs, c1, c2⟩ := H1.out
      obtain ⟨ds, d1, d2⟩ := H0.out
      go_wp2_with (first
        | (refine wpList_load_row rfl 78 _ rfl (w.heap.size + 1) rfl _ cs (0, 0) _ c1 Tryz.underlying78 rfl (by rw [c2.1]; exact u256_info) ?_)
        | (refine wpList_store_row rfl 78 _ _ rfl w.heap.size cs rfl rfl _ ds d1 (by rw [c2.1]; exact u256_info) (by rw [c2.1, d2.1]) (u256_one c2) ?_))
      exact bodyPost_ret (v := .agg cs) (results_cell_row Tryz.results34 _ _ w.heap.size _ _ (0, 0) _ (by first | rfl | simp [Act.put]) (setRow_heap _ _ _ _ _ _ d1) Tryz.underlying78 rfl (by rw [c2.1]; exact u256_info)) rfl ⟨⟨cs, rfl, c2⟩, row_bel HW.out (Nat.le_refl _) _⟩
end Go.Proofs.YtpcjnhffpkpchaaGreat
namespace Go.Proofs.YtpcjnhffpkpchaaGreat
set_option linter.unusedVariables false
open Go.RowKit
/-- Are these bytes? -/
def U8s (bs : List Value) : Prop := ∀ v ∈ bs, ∃ n, v = .int .u8 n
theorem U8s.app {a b : List Value} (h : U8s a) (k : U8s b) : U8s (a ++ b) := fun v hv => by rcases List.mem_append.1 hv with q | q; exact h v q; exact k v q
theorem U8s.str (s : ByteArray) : U8s (Lib.strCells s) := fun v hv => by
  unfold Lib.strCells at hv
  obtain ⟨b, _, rfl⟩ := List.mem_map.1 hv
  exact ⟨_, rfl⟩
/-- A writer in a block of its own, which has so many bytes. -/
def Wq (B g : Nat) (bs : List Value) (V : World) : Prop := B ≤ g ∧ U8s bs ∧ ∃ v, V.heap[g]? = some (.cells #[v] 52 (0, 0)) ∧ V.ownsRow B 5 1 v bs.length bs ∧ v.ownBlock ≠ some g
theorem u8_info : ∃ i, Tryz.prog.info? 5 = some i ∧ i.zero = some (.int .u8 0) ∧ i.size = 1 ∧ i.bytes = 1 := by
  obtain ⟨i, hi, hz⟩ := Option.map_eq_some_iff.1 (show (Tryz.prog.info? 5).map (fun i => (i.zero, i.size, i.bytes)) = some (some (.int .u8 0), 1, 1) by kernel_rfl)
  simp only [Prod.mk.injEq] at hz
  exact ⟨i, hi, hz.1, hz.2.1, hz.2.2⟩
theorem Wq.put {B g : Nat} {v v' : Value} {bs' : List Value} {V : World} (hB : B ≤ g) (hb : V.heap[g]? = some (.cells #[v] 52 (0, 0))) (hown : V.ownsRow B 5 1 v' bs'.length bs') (hu : U8s bs') : Wq B g bs' (V.setCell ⟨g, 0, none⟩ v') := by
  have hne : v'.ownBlock ≠ some g := Lib.ownBlock_ne hown hb (by decide)
  refine ⟨hB, hu, v', ?_, ?_, hne⟩
  · simp [World.setCell, Array.getElem?_modify, hb]
  · exact hown.kept (row := some g) ⟨rfl, rfl, rfl, by simp [World.setCell], fun k _ hk => Below.heap_setCell _ _ _ _ (fun e => hk (by simp [e]))⟩ (Or.inr hne)
theorem Wq.shape {B g : Nat} {bs : List Value} {V : World} (h : Wq B g bs V) : ∃ x n c, V.heap[g]? = some (.cells #[.slice x n c] 52 (0, 0)) ∧ V.ownsRow B 5 1 (.slice x n c) bs.length bs := by
  obtain ⟨_, _, v, h1, h2, _⟩ := h
  rcases h2.2 with ⟨rfl, h0⟩ | ⟨k, cap, cur, rfl, hx⟩
  · exact ⟨_, _, _, h1, h2⟩
  · exact ⟨_, _, _, h1, h2⟩
theorem Wq.below {B g : Nat} {bs : List Value} {V V' : World} (h : Wq B g bs V) (hb : Below V.heap.size V V') : Wq B g bs V' := by
  obtain ⟨hB, hu, v, h1, h2, h3⟩ := h
  exact ⟨hB, hu, v, (hb.block _ (blk_in h1)).trans h1, h2.kept (row := none) ⟨hb.os, hb.tape, hb.output, hb.size, fun k hk _ => hb.block k hk⟩ (by rcases h : v.ownBlock with _ | q <;> simp), h3⟩
theorem Wq.lt {B g : Nat} {bs : List Value} {V : World} (h : Wq B g bs V) : B ≤ g ∧ g < V.heap.size := ⟨h.1, by obtain ⟨_, _, v, h1, _⟩ := h; exact blk_in h1⟩
theorem Wq.u8 {B g : Nat} {bs : List Value} {V : World} (h : Wq B g bs V) : U8s bs := h.2.1
/-- Blocks of other types than bytes' and the writer's stay. -/
def KpT (w w' : World) : Prop := ∀ (k : Nat) cs T fr, w.heap[k]? = some (.cells cs T fr) → T ≠ 5 → T ≠ 52 → w'.heap[k]? = some (.cells cs T fr)
/-- What is below B stays, and blocks of other types do. -/
structure Bq (B : Nat) (w w' : World) : Prop where
  b : Below B w w'
  k : KpT w w'
theorem Bq.refl (B : Nat) (w : World) : Bq B w w := ⟨Below.refl _ _, fun _ _ _ _ h _ _ => h⟩
theorem Bq.trans {B : Nat} {a b c : World} (h : Bq B a b) (k : Bq B b c) : Bq B a c := ⟨h.b.trans k.b, fun n cs T fr q1 q2 q3 => k.k n cs T fr (h.k n cs T fr q1 q2 q3) q2 q3⟩
theorem Bq.up {B : Nat} {a b : World} (h : Below a.heap.size a b) (hB : B ≤ a.heap.size) : Bq B a b := ⟨h.mono hB, fun n cs T fr q1 _ _ => (h.block n (blk_in q1)).trans q1⟩
theorem Bq.grown {B : Nat} {a b c : World} {v : Value} {n : Nat} {xs : List Value} (h : Bq B a b) (ho : b.ownsRow B 5 1 v n xs) (hg : b.grownBy c v.ownBlock) (hB : B ≤ b.heap.size) : Bq B a c :=
  h.trans ⟨(Below.refl B b).grown hg hB (fun k hk => (ho.lt k hk).1), fun k cs T fr q1 q2 q3 => by
    rw [hg.block k (blk_in q1) (fun e => Lib.ownBlock_ne ho q1 q2 e.symm)]
    exact q1⟩
theorem Bq.set {B g : Nat} {a b : World} {cs : Array Value} (h : Bq B a b) (hg : b.heap[g]? = some (.cells cs 52 (0, 0))) (hB : B ≤ g) (j : Nat) (v : Value) : Bq B a (b.setCell ⟨g, j, none⟩ v) :=
  h.trans ⟨(Below.refl B b).setCell (p := ⟨g, j, none⟩) hB _, fun k cs T fr q1 q2 q3 => by
    have hne : k ≠ g := fun e => by rw [e, hg] at q1; cases q1; exact q3 rfl
    rw [Below.heap_setCell _ _ _ _ hne]
    exact q1⟩
set_option maxRecDepth 20000 in
set_option maxHeartbeats 4000000 in
theorem raw_of (B g : Nat) (bs : List Value) (b : Int) (w : World) (h : Wq B g bs w) (hl : bs.length ≤ 70368744177664) :
    Calls Tryz.prog 60 #[.pointer (some ⟨g, 0, none⟩), .int .u8 b] w fun e w' => e = .returned (.tuple #[]) ∧ Wq B g (bs ++ [.int .u8 b]) w' ∧ Bq B w w' := by
  obtain ⟨i0, hi, hz0, hz1, hz2⟩ := u8_info
  have hB := h.lt
  have hU := h.u8
  obtain ⟨x, n, c, hg, hown⟩ := h.shape
  have c0 : w.cell? ⟨g, 0, none⟩ = some (.slice x n c) := by simp [World.cell?, hg]
  have HG : Hid (w.heap[g]? = some (.cells #[.slice x n c] 52 (0, 0))) := hg
  have HO : Hid (w.ownsRow B 5 1 (.slice x n c) bs.length bs) := hown
  have NE : Hid ((Value.slice x n c).ownBlock ≠ some g) := Lib.ownBlock_ne hown hg (by decide)
  clear h hg hown
  have GA : Hid (∀ X : Obj, Below w.heap.size w (w.alloc X)) := fun X => (Below.refl _ _).alloc (Nat.le_refl _) _
  have OA : Hid (∀ X : Obj, (w.alloc X).ownsRow B 5 1 (.slice x n c) bs.length bs) := fun X => HO.out.kept (row := none) ⟨rfl, rfl, rfl, (GA.out X).size, fun k hk _ => (GA.out X).block k hk⟩ (by rcases h : (Value.slice x n c).ownBlock with _ | q <;> simp)
  go_enter Tryz.func60, Tryz.ntmps60
  go_wp2_with (at_builtin; refine wpList_append_own_at _ rfl _ _ 28 rfl B 5 i0 _ 1 1 Tryz.underlying28 hi hz0 hz1 hz2 rfl (by decide) _ bs.length bs rfl (OA.out _) ⟨w.heap.size, 0, none⟩ 1 1 [.int .u8 b] rfl rfl (cell_one_new _ _ _) (by simp [Value.oneCell']) (by unfold maxLen; omega) (by omega) (by simp; omega) ?_)
  intro v' w1 hown' hgrow hnil hat'
  have O1 : Hid (w1.ownsRow B 5 1 v' (bs ++ [Value.int .u8 b]).length (bs ++ [Value.int .u8 b])) := by show World.ownsRow _ _ _ _ _ _ _; rw [List.length_append]; exact hown'
  have hlt : g < (w.alloc (.cells #[.int .u8 b] 5)).heap.size := by simp; omega
  have G1 : Hid (w1.heap[g]? = some (.cells #[.slice x n c] 52 (0, 0))) := by
    rw [hgrow.block g hlt (fun e => NE.out e.symm), Below.heap_alloc _ _ _ hB.2]
    exact HG.out
  have B1 : Hid (Bq B w w1) := (Bq.up (GA.out _) (by omega)).grown (OA.out _) hgrow (by simp; omega)
  have d0 : w1.cell? ⟨g, 0, none⟩ = some (.slice x n c) := by simp [World.cell?, G1.out]
  have d1 : w1.frozen? ⟨g, 0, none⟩ = false := by simp [World.frozen?, G1.out]
  obtain ⟨y, k, q, rfl⟩ : ∃ y k q, v' = .slice y k q := by
    rcases hown'.2 with ⟨hv, _⟩ | ⟨_, cap, cur, hv, _⟩
    · exact ⟨_, _, _, hv⟩
    · exact ⟨_, _, _, hv⟩
  clear hown' hgrow hnil hat' hlt c0 GA OA
  go_wp2
  go_end0
  exact ⟨rfl, Wq.put hB.1 G1.out O1.out (hU.app (fun v hv => ⟨b, by simpa using hv⟩)), B1.out.set G1.out hB.1 _ _⟩
set_option maxRecDepth 20000 in
set_option maxHeartbeats 4000000 in
theorem number_of (B g : Nat) (bs : List Value) (v : Int) (w : World) (h : Wq B g bs w) (hl : bs.length ≤ 1000) :
    Calls Tryz.prog 59 #[.pointer (some ⟨g, 0, none⟩), .int .i64 v] w fun e w' => e = .returned (.tuple #[]) ∧ (∃ l : List Value, l.length = 8 ∧ Wq B g (bs ++ l) w') ∧ Bq B w w' := by
  have H : Hid (Wq B g bs w) := h
  have HL : Hid (bs.length ≤ 1000) := hl
  clear h hl
  go_enter Tryz.func59, Tryz.ntmps59
  go_upto_region 1 with fail
  go_loopw [5] (fun i wr => ∃ (k : Nat) (l : List Value), k ≤ 8 ∧ i = .int .i64 k ∧ l.length = k ∧ Wq B g (bs ++ l) wr ∧ Bq B w wr) (fun i _ => 8 - (intOf i).toNat)
  case atStart => exact ⟨0, [], Nat.zero_le _, rfl, rfl, by rw [List.append_nil]; exact H.out, Bq.refl _ _⟩
  case round =>
    obtain ⟨k, l, hk, rfl, hll, hw, hb⟩ := hrel
    have HW : Hid (Wq B g (bs ++ l) wr) := hw
    have HB : Hid (Bq B w wr) := hb
    have LL : Hid (l.length = k) := hll
    clear hw hb hll
    by_cases hlt : k < 8
    · have kl : (k : Int) < 8 := by omega
      have LT : Hid (k < 8) := hlt
      have ek : wrap64 ((k : Int) + 1) = (k : Int) + 1 := by unfold wrap64; omega
      have e8 : wrap64 (8 * (k : Int)) = 8 * (k : Int) := by unfold wrap64; omega
      have p8 : ¬ (8 * (k : Int)) < 0 := by omega
      have q8 : (0 : Int) ≤ 8 * (k : Int) := by omega
      clear hlt
      go_wp2_with (go_at_call 60; refine (raw_of B g (bs ++ l) _ _ HW.out (by rw [List.length_append, LL.out]; have := HL.out; omega)).mono ?_)
      intro e w1 he h1 hb1
      subst he
      have H1 : Hid (Wq B g _ w1) := h1
      have B1 : Hid (Bq B w w1) := HB.out.trans hb1
      clear h1 hb1
      go_wp2
      try rw [ek]
      exact ⟨⟨k + 1, l ++ [_], Nat.succ_le_of_lt LT.out, rfl, (by rw [List.length_append, LL.out]; rfl), (by first | exact H1.out | (rw [← List.append_assoc]; exact H1.out)), B1.out⟩, msr LT.out⟩
    · have kl : ¬ (k : Int) < 8 := by omega
      have ek : k = 8 := by omega
      subst ek
      clear hlt hk
      go_wp2
      go_end0
      exact ⟨rfl, ⟨l, LL.out, HW.out⟩, HB.out⟩
set_option maxRecDepth 20000 in
set_option maxHeartbeats 4000000 in
theorem text_of (B g : Nat) (bs : List Value) (s : ByteArray) (w : World) (h : Wq B g bs w) (hl : bs.length ≤ 900) (hs : s.size ≤ 100) :
    Calls Tryz.prog 27 #[.pointer (some ⟨g, 0, none⟩), .string s] w fun e w' => e = .returned (.tuple #[]) ∧ (∃ l : List Value, l.length = 8 ∧ Wq B g (bs ++ l ++ Lib.strCells s) w') ∧ Bq B w w' := by
  obtain ⟨i0, hi, hz0, hz1, hz2⟩ := u8_info
  have H : Hid (Wq B g bs w) := h
  have HB := h.lt
  have HL : Hid (bs.length ≤ 900) := hl
  have HS : Hid (s.size ≤ 100) := hs
  clear h hl hs
  go_enter Tryz.func27, Tryz.ntmps27
  go_wp2_with (go_at_call 59; refine (number_of B g bs _ _ H.out (by have := HL.out; omega)).mono ?_)
  first | (rintro e w1 ⟨he, ⟨l, hll, h1⟩, hb1⟩) | (rintro e w1 he ⟨⟨l, hll, h1⟩, hb1⟩) | (rintro e w1 he ⟨l, hll, h1⟩ hb1) | (rintro e w1 he l hll h1 hb1)
  subst he
  have LL : Hid (l.length = 8) := hll
  have B1 : Hid (Bq B w w1) := hb1
  have HB1 := h1.lt
  have HU1 := h1.u8
  obtain ⟨x, n, c, hg, hown⟩ := h1.shape
  have c0 : w1.cell? ⟨g, 0, none⟩ = some (.slice x n c) := by simp [World.cell?, hg]
  have HG : Hid (w1.heap[g]? = some (.cells #[.slice x n c] 52 (0, 0))) := hg
  have HO : Hid (w1.ownsRow B 5 1 (.slice x n c) (bs ++ l).length (bs ++ l)) := hown
  have NE : Hid ((Value.slice x n c).ownBlock ≠ some g) := Lib.ownBlock_ne hown hg (by decide)
  have SZ : Hid ((bs ++ l).length ≤ 1000) := by show _ ≤ _; rw [List.length_append, LL.out]; have := HL.out; omega
  clear h1 hg hown hb1 hll
  go_wp2_with (at_builtin; refine Lib.wpList_append_own_string _ rfl _ _ 28 9 rfl B 5 i0 Tryz.underlying28 Tryz.underlying9 hi hz0 hz1 hz2 _ _ _ rfl HO.out s rfl ?c3 ?c4 ?c5 ?_)
  case c3 => have := SZ.out; have := HS.out; unfold maxLen; omega
  case c4 => have := SZ.out; have := HS.out; omega
  case c5 => omega
  intro v' w2 hown' hgrow hnil
  have O1 : Hid (w2.ownsRow B 5 1 v' (bs ++ l ++ Lib.strCells s).length (bs ++ l ++ Lib.strCells s)) := by show World.ownsRow _ _ _ _ _ _ _; first | (rw [List.length_append, Lib.strCells_length]; exact hown') | (rw [List.length_append, List.length_append, Lib.strCells_length, List.append_assoc]; exact hown')
  have G1 : Hid (w2.heap[g]? = some (.cells #[.slice x n c] 52 (0, 0))) := by
    rw [hgrow.block g HB1.2 (fun e => NE.out e.symm)]
    exact HG.out
  have B2 : Hid (Bq B w w2) := B1.out.grown HO.out hgrow (by omega)
  have d0 : w2.cell? ⟨g, 0, none⟩ = some (.slice x n c) := by simp [World.cell?, G1.out]
  have d1 : w2.frozen? ⟨g, 0, none⟩ = false := by simp [World.frozen?, G1.out]
  obtain ⟨y, k, q, rfl⟩ : ∃ y k q, v' = .slice y k q := by
    rcases hown'.2 with ⟨hv, _⟩ | ⟨_, cap, cur, hv, _⟩
    · exact ⟨_, _, _, hv⟩
    · exact ⟨_, _, _, hv⟩
  clear hown' hgrow hnil c0
  go_wp2
  go_end0
  exact ⟨rfl, ⟨l, LL.out, Wq.put HB.1 G1.out O1.out (HU1.app (U8s.str s))⟩, B2.out.set G1.out HB.1 _ _⟩
end Go.Proofs.YtpcjnhffpkpchaaGreat
namespace Go.Proofs.YtpcjnhffpkpchaaGreat
set_option linter.unusedVariables false
open Go.RowKit
set_option maxRecDepth 20000 in
set_option maxHeartbeats 4000000 in
theorem writeListCell_nil (B g : Nat) (bs : List Value) (fv : Value) (w : World) (h : Wq B g bs w) (hl : bs.length ≤ 900) :
    Calls Tryz.prog 28 #[.pointer (some ⟨g, 0, none⟩), .slice none 0 0, fv] w fun e w' => e = .returned (.tuple #[]) ∧ (∃ l : List Value, l.length = 8 ∧ Wq B g (bs ++ l) w') ∧ Bq B w w' := by
  have H : Hid (Wq B g bs w) := h
  have HL : Hid (bs.length ≤ 900) := hl
  clear h hl
  go_enter Tryz.func28, Tryz.ntmps28
  go_wp2_with (go_at_call 59; refine (number_of B g bs _ _ H.out (by have := HL.out; omega)).mono ?_)
  first | (rintro e w1 ⟨he, ⟨l, hll, h1⟩, hb1⟩) | (rintro e w1 he ⟨⟨l, hll, h1⟩, hb1⟩) | (rintro e w1 he ⟨l, hll, h1⟩ hb1) | (rintro e w1 he l hll h1 hb1)
  subst he
  have L1 : Hid (l.length = 8) := hll
  have W1 : Hid (Wq B g (bs ++ l) w1) := h1
  have B1 : Hid (Bq B w w1) := hb1
  clear hll h1 hb1
  go_upto_region 2 with fail
  go_loopw [14] (fun i wr => i = .int .i64 0 ∧ wr = w1) (fun _ _ => 0)
  case atStart => exact ⟨rfl, rfl⟩
  case round =>
    obtain ⟨rfl, hw⟩ := hrel
    rw [hw]
    clear hw wr
    go_wp2
    go_end0
    exact ⟨rfl, ⟨l, L1.out, W1.out⟩, B1.out⟩
set_option maxRecDepth 20000 in
set_option maxHeartbeats 4000000 in
theorem writeListFlat_nil (B g : Nat) (bs : List Value) (fv : Value) (w : World) (h : Wq B g bs w) (hl : bs.length ≤ 900) :
    Calls Tryz.prog 30 #[.pointer (some ⟨g, 0, none⟩), .slice none 0 0, fv] w fun e w' => e = .returned (.tuple #[]) ∧ (∃ l : List Value, l.length = 8 ∧ Wq B g (bs ++ l) w') ∧ Bq B w w' := by
  have H : Hid (Wq B g bs w) := h
  have HL : Hid (bs.length ≤ 900) := hl
  clear h hl
  go_enter Tryz.func30, Tryz.ntmps30
  go_wp2_with (go_at_call 59; refine (number_of B g bs _ _ H.out (by have := HL.out; omega)).mono ?_)
  first | (rintro e w1 ⟨he, ⟨l, hll, h1⟩, hb1⟩) | (rintro e w1 he ⟨⟨l, hll, h1⟩, hb1⟩) | (rintro e w1 he ⟨l, hll, h1⟩ hb1) | (rintro e w1 he l hll h1 hb1)
  subst he
  have L1 : Hid (l.length = 8) := hll
  have W1 : Hid (Wq B g (bs ++ l) w1) := h1
  have B1 : Hid (Bq B w w1) := hb1
  clear hll h1 hb1
  go_upto_region 2 with fail
  go_loopw [14] (fun i wr => i = .int .i64 0 ∧ wr = w1) (fun _ _ => 0)
  case atStart => exact ⟨rfl, rfl⟩
  case round =>
    obtain ⟨rfl, hw⟩ := hrel
    rw [hw]
    clear hw wr
    go_wp2
    go_end0
    exact ⟨rfl, ⟨l, L1.out, W1.out⟩, B1.out⟩
set_option maxRecDepth 20000 in
set_option maxHeartbeats 4000000 in
theorem writeListJob_nil (B g : Nat) (bs : List Value) (fv : Value) (w : World) (h : Wq B g bs w) (hl : bs.length ≤ 900) :
    Calls Tryz.prog 32 #[.pointer (some ⟨g, 0, none⟩), .slice none 0 0, fv] w fun e w' => e = .returned (.tuple #[]) ∧ (∃ l : List Value, l.length = 8 ∧ Wq B g (bs ++ l) w') ∧ Bq B w w' := by
  have H : Hid (Wq B g bs w) := h
  have HL : Hid (bs.length ≤ 900) := hl
  clear h hl
  go_enter Tryz.func32, Tryz.ntmps32
  go_wp2_with (go_at_call 59; refine (number_of B g bs _ _ H.out (by have := HL.out; omega)).mono ?_)
  first | (rintro e w1 ⟨he, ⟨l, hll, h1⟩, hb1⟩) | (rintro e w1 he ⟨⟨l, hll, h1⟩, hb1⟩) | (rintro e w1 he ⟨l, hll, h1⟩ hb1) | (rintro e w1 he l hll h1 hb1)
  subst he
  have L1 : Hid (l.length = 8) := hll
  have W1 : Hid (Wq B g (bs ++ l) w1) := h1
  have B1 : Hid (Bq B w w1) := hb1
  clear hll h1 hb1
  go_upto_region 2 with fail
  go_loopw [14] (fun i wr => i = .int .i64 0 ∧ wr = w1) (fun _ _ => 0)
  case atStart => exact ⟨rfl, rfl⟩
  case round =>
    obtain ⟨rfl, hw⟩ := hrel
    rw [hw]
    clear hw wr
    go_wp2
    go_end0
    exact ⟨rfl, ⟨l, L1.out, W1.out⟩, B1.out⟩
/-- The image of a name alone, as a value. -/
def imM : Value := .agg #[.string ⟨#[77]⟩, .slice none 0 0, .slice none 0 0, .slice none 0 0]
set_option maxRecDepth 20000 in
set_option maxHeartbeats 4000000 in
theorem imageM_of (B g : Nat) (w : World) (h : Wq B g [] w) :
    Calls Tryz.prog 14 #[.pointer (some ⟨g, 0, none⟩), .agg #[.string ⟨#[77]⟩, .slice none 0 0, .slice none 0 0, .slice none 0 0]] w fun e w' => e = .returned (.tuple #[]) ∧ (∃ l : List Value, l.length = 37 ∧ l[0]? = some (.int .u8 114) ∧ l[12]? = some (.int .u8 77) ∧ Wq B g l w') ∧ Bq B w w' := by
  obtain ⟨i0, hi, hz0, hz1, hz2⟩ := u8_info
  have HB := h.lt
  obtain ⟨AW, eW⟩ : ∃ AW, AW = w.alloc (.cells #[.string ⟨#[77]⟩, .slice none 0 0, .slice none 0 0, .slice none 0 0] 26 (0, 0)) := ⟨_, rfl⟩
  have AB : Hid (Below w.heap.size w AW) := by rw [eW]; exact (Below.refl _ _).alloc (Nat.le_refl _) _
  have AX : Hid (AW.heap[w.heap.size]? = some (.cells #[.string ⟨#[77]⟩, .slice none 0 0, .slice none 0 0, .slice none 0 0] 26 (0, 0))) := by rw [eW]; exact heap_alloc_last _ _
  have h' := h.below AB.out
  clear h
  obtain ⟨x, n, c, hg, hown⟩ := h'.shape
  have c0 : AW.cell? ⟨g, 0, none⟩ = some (.slice x n c) := by simp [World.cell?, hg]
  have HG : Hid (AW.heap[g]? = some (.cells #[.slice x n c] 52 (0, 0))) := hg
  have HO : Hid (AW.ownsRow B 5 1 (.slice x n c) ([] : List Value).length []) := hown
  have NE : Hid ((Value.slice x n c).ownBlock ≠ some g) := Lib.ownBlock_ne hown hg (by decide)
  have NI : Hid ((Value.slice x n c).ownBlock ≠ some w.heap.size) := Lib.ownBlock_ne hown AX.out (by decide)
  have AS : AW.heap.size = w.heap.size + 1 := by rw [eW]; simp
  clear h' hg hown
  go_enter Tryz.func14, Tryz.ntmps14
  go_upto_region 1 with fail
  rw [← eW]
  clear eW
  go_wp2_with (at_builtin; refine Lib.wpList_append_own_string _ rfl _ _ 28 9 rfl B 5 i0 Tryz.underlying28 Tryz.underlying9 hi hz0 hz1 hz2 _ _ _ rfl HO.out ⟨#[114, 108, 121, 1]⟩ rfl ?c3 ?c4 ?c5 ?_)
  case c3 => decide
  case c4 => decide
  case c5 => omega
  intro v' w2 hown' hgrow hnil
  have O2 : Hid (w2.ownsRow B 5 1 v' (Lib.strCells ⟨#[114, 108, 121, 1]⟩).length (Lib.strCells ⟨#[114, 108, 121, 1]⟩)) := hown'
  have HB2 : g < AW.heap.size := blk_in HG.out
  have G2 : Hid (w2.heap[g]? = some (.cells #[.slice x n c] 52 (0, 0))) := by
    rw [hgrow.block g HB2 (fun e => NE.out e.symm)]
    exact HG.out
  have Q2 : Hid (Bq B AW w2) := (Bq.refl B AW).grown HO.out hgrow (by omega)
  have d0 : w2.cell? ⟨g, 0, none⟩ = some (.slice x n c) := by simp [World.cell?, G2.out]
  have d1 : w2.frozen? ⟨g, 0, none⟩ = false := by simp [World.frozen?, G2.out]
  obtain ⟨y, k, q, rfl⟩ : ∃ y k q, v' = .slice y k q := by
    rcases hown'.2 with ⟨hv, _⟩ | ⟨_, cap, cur, hv, _⟩
    · exact ⟨_, _, _, hv⟩
    · exact ⟨_, _, _, hv⟩
  clear hown' hgrow hnil c0
  obtain ⟨w3, e3⟩ : ∃ V, V = w2.setCell ⟨g, 0, none⟩ (.slice y k q) := ⟨_, rfl⟩
  have H3 : Hid (Wq B g (Lib.strCells ⟨#[114, 108, 121, 1]⟩) w3) := by rw [e3]; exact Wq.put HB.1 G2.out O2.out (U8s.str _)
  have Q3 : Hid (Bq B AW w3) := by rw [e3]; exact Q2.out.set G2.out HB.1 _ _
  have I3 : Hid (w3.heap[w.heap.size]? = some (.cells #[.string ⟨#[77]⟩, .slice none 0 0, .slice none 0 0, .slice none 0 0] 26 (0, 0))) := Q3.out.k _ _ _ _ AX.out (by decide) (by decide)
  go_upto_region 2 with fail
  rw [← e3]
  clear e3 d0 d1 G2 O2 Q2
  have i0 : w3.cell? ⟨w.heap.size, 0, none⟩ = some (.string ⟨#[77]⟩) := by simp [World.cell?, I3.out]
  have i1 : w3.cell? ⟨w.heap.size, 1, none⟩ = some (.slice none 0 0) := by simp [World.cell?, I3.out]
  have i2 : w3.cell? ⟨w.heap.size, 2, none⟩ = some (.slice none 0 0) := by simp [World.cell?, I3.out]
  have i3 : w3.cell? ⟨w.heap.size, 3, none⟩ = some (.slice none 0 0) := by simp [World.cell?, I3.out]
  go_wp2_with (go_at_call 27; refine (text_of B g _ _ _ H3.out (by decide) (by decide)).mono ?_)
  first | (rintro e w4 ⟨he, ⟨l4, hll, h1⟩, hb1⟩) | (rintro e w4 he ⟨⟨l4, hll, h1⟩, hb1⟩) | (rintro e w4 he ⟨l4, hll, h1⟩ hb1) | (rintro e w4 he l4 hll h1 hb1)
  subst he
  have L4 : Hid (l4.length = 8) := hll
  have H4 : Hid (Wq B g (Lib.strCells ⟨#[114, 108, 121, 1]⟩ ++ l4 ++ Lib.strCells ⟨#[77]⟩) w4) := by first | exact h1 | simpa [List.append_assoc] using h1
  have Q4 : Hid (Bq B AW w4) := Q3.out.trans hb1
  have I4 : Hid (w4.heap[w.heap.size]? = some (.cells #[.string ⟨#[77]⟩, .slice none 0 0, .slice none 0 0, .slice none 0 0] 26 (0, 0))) := Q4.out.k _ _ _ _ AX.out (by decide) (by decide)
  clear i0 i1 i2 i3 hll h1 hb1
  have i0 : w4.cell? ⟨w.heap.size, 0, none⟩ = some (.string ⟨#[77]⟩) := by simp [World.cell?, I4.out]
  have i1 : w4.cell? ⟨w.heap.size, 1, none⟩ = some (.slice none 0 0) := by simp [World.cell?, I4.out]
  have i2 : w4.cell? ⟨w.heap.size, 2, none⟩ = some (.slice none 0 0) := by simp [World.cell?, I4.out]
  have i3 : w4.cell? ⟨w.heap.size, 3, none⟩ = some (.slice none 0 0) := by simp [World.cell?, I4.out]
  go_wp2_with (go_at_call 28; refine (writeListCell_nil B g _ _ _ H4.out (by simp [Lib.strCells_length, L4.out]; decide)).mono ?_)
  first | (rintro e w5 ⟨he, ⟨l5, hll, h1⟩, hb1⟩) | (rintro e w5 he ⟨⟨l5, hll, h1⟩, hb1⟩) | (rintro e w5 he ⟨l5, hll, h1⟩ hb1) | (rintro e w5 he l5 hll h1 hb1)
  subst he
  have L5 : Hid (l5.length = 8) := hll
  have H5 : Hid (Wq B g (Lib.strCells ⟨#[114, 108, 121, 1]⟩ ++ l4 ++ Lib.strCells ⟨#[77]⟩ ++ l5) w5) := by first | exact h1 | simpa [List.append_assoc] using h1
  have Q5 : Hid (Bq B AW w5) := Q4.out.trans hb1
  have I5 : Hid (w5.heap[w.heap.size]? = some (.cells #[.string ⟨#[77]⟩, .slice none 0 0, .slice none 0 0, .slice none 0 0] 26 (0, 0))) := Q5.out.k _ _ _ _ AX.out (by decide) (by decide)
  clear i0 i1 i2 i3 hll h1 hb1
  have i0 : w5.cell? ⟨w.heap.size, 0, none⟩ = some (.string ⟨#[77]⟩) := by simp [World.cell?, I5.out]
  have i1 : w5.cell? ⟨w.heap.size, 1, none⟩ = some (.slice none 0 0) := by simp [World.cell?, I5.out]
  have i2 : w5.cell? ⟨w.heap.size, 2, none⟩ = some (.slice none 0 0) := by simp [World.cell?, I5.out]
  have i3 : w5.cell? ⟨w.heap.size, 3, none⟩ = some (.slice none 0 0) := by simp [World.cell?, I5.out]
  go_wp2_with (go_at_call 30; refine (writeListFlat_nil B g _ _ _ H5.out (by simp [Lib.strCells_length, L4.out, L5.out]; decide)).mono ?_)
  first | (rintro e w6 ⟨he, ⟨l6, hll, h1⟩, hb1⟩) | (rintro e w6 he ⟨⟨l6, hll, h1⟩, hb1⟩) | (rintro e w6 he ⟨l6, hll, h1⟩ hb1) | (rintro e w6 he l6 hll h1 hb1)
  subst he
  have L6 : Hid (l6.length = 8) := hll
  have H6 : Hid (Wq B g (Lib.strCells ⟨#[114, 108, 121, 1]⟩ ++ l4 ++ Lib.strCells ⟨#[77]⟩ ++ l5 ++ l6) w6) := by first | exact h1 | simpa [List.append_assoc] using h1
  have Q6 : Hid (Bq B AW w6) := Q5.out.trans hb1
  have I6 : Hid (w6.heap[w.heap.size]? = some (.cells #[.string ⟨#[77]⟩, .slice none 0 0, .slice none 0 0, .slice none 0 0] 26 (0, 0))) := Q6.out.k _ _ _ _ AX.out (by decide) (by decide)
  clear i0 i1 i2 i3 hll h1 hb1
  have i0 : w6.cell? ⟨w.heap.size, 0, none⟩ = some (.string ⟨#[77]⟩) := by simp [World.cell?, I6.out]
  have i1 : w6.cell? ⟨w.heap.size, 1, none⟩ = some (.slice none 0 0) := by simp [World.cell?, I6.out]
  have i2 : w6.cell? ⟨w.heap.size, 2, none⟩ = some (.slice none 0 0) := by simp [World.cell?, I6.out]
  have i3 : w6.cell? ⟨w.heap.size, 3, none⟩ = some (.slice none 0 0) := by simp [World.cell?, I6.out]
  go_wp2_with (go_at_call 32; refine (writeListJob_nil B g _ _ _ H6.out (by simp [Lib.strCells_length, L4.out, L5.out, L6.out]; decide)).mono ?_)
  first | (rintro e w7 ⟨he, ⟨l7, hll, h1⟩, hb1⟩) | (rintro e w7 he ⟨⟨l7, hll, h1⟩, hb1⟩) | (rintro e w7 he ⟨l7, hll, h1⟩ hb1) | (rintro e w7 he l7 hll h1 hb1)
  subst he
  have L7 : Hid (l7.length = 8) := hll
  have H7 : Hid (Wq B g (Lib.strCells ⟨#[114, 108, 121, 1]⟩ ++ l4 ++ Lib.strCells ⟨#[77]⟩ ++ l5 ++ l6 ++ l7) w7) := by first | exact h1 | simpa [List.append_assoc] using h1
  have Q7 : Hid (Bq B AW w7) := Q6.out.trans hb1
  have I7 : Hid (w7.heap[w.heap.size]? = some (.cells #[.string ⟨#[77]⟩, .slice none 0 0, .slice none 0 0, .slice none 0 0] 26 (0, 0))) := Q7.out.k _ _ _ _ AX.out (by decide) (by decide)
  clear i0 i1 i2 i3 hll h1 hb1
  go_wp2
  go_end0
  refine ⟨rfl, ⟨_, ?_, ?_, ?_, H7.out⟩, (Bq.up AB.out (by omega)).trans Q7.out⟩
  · simp [Lib.strCells_length, L4.out, L5.out, L6.out, L7.out]; decide
  · rfl
  · simp only [List.append_assoc]
    rw [List.getElem?_append_right (by decide)]
    show (l4 ++ _)[8]? = _
    rw [List.getElem?_append_right (by rw [L4.out]; decide), L4.out]
    rfl
end Go.Proofs.YtpcjnhffpkpchaaGreat
namespace Go.Proofs.YtpcjnhffpkpchaaGreat
set_option linter.unusedVariables false
open Go.RowKit
theorem wrap_u8 (n : Int) : 0 ≤ IntKind.u8.wrap n ∧ IntKind.u8.wrap n < 256 := by
  show 0 ≤ n % 256 ∧ n % 256 < 256
  omega
theorem bits_u8 (op : BinOp) (x y : Int) : 0 ≤ bits op .u8 x y ∧ bits op .u8 x y < 256 := wrap_u8 _
set_option maxRecDepth 20000 in
set_option maxHeartbeats 4000000 in
theorem sumOf_of (x : Option Addr) (n c : Nat) (w : World) (hn : n ≤ 1000) (hc : ∀ k, k < n → ∃ a b, x = some a ∧ a.block < w.heap.size ∧ w.cell? (a.add k) = some (.int .u8 b)) :
    Calls Tryz.prog 15 #[.slice x n c] w fun e w' => (∃ b0 b1 b2 b3, e = .returned (.agg #[.int .u8 b0, .int .u8 b1, .int .u8 b2, .int .u8 b3])) ∧ Below w.heap.size w w' := by
  have HC : Hid (∀ k, k < n → ∃ a b, x = some a ∧ a.block < w.heap.size ∧ w.cell? (a.add k) = some (.int .u8 b)) := hc
  have HN : Hid (n ≤ 1000) := hn
  clear hc hn
  obtain ⟨AW, eW⟩ : ∃ AW, AW = w.alloc (.cells #[.int .u8 0, .int .u8 0, .int .u8 0, .int .u8 0] 54 (0, 0)) := ⟨_, rfl⟩
  have AB : Hid (Below w.heap.size w AW) := by rw [eW]; exact (Below.refl _ _).alloc (Nat.le_refl _) _
  have AX : Hid (AW.heap[w.heap.size]? = some (.cells #[.int .u8 0, .int .u8 0, .int .u8 0, .int .u8 0] 54 (0, 0))) := by rw [eW]; exact heap_alloc_last _ _
  go_enter Tryz.func15, Tryz.ntmps15
  go_upto_region 1 with fail
  rw [← eW]
  clear eW
  go_wp2_with (go_at_call 34; refine (byteChanges_of _).mono ?_)
  first | (rintro e w1 ⟨⟨cs, he, hu⟩, hb1⟩) | (rintro e w1 cs he hu hb1) | (rintro e w1 ⟨cs, he, hu⟩ hb1)
  subst he
  have U : Hid (U256 cs) := hu
  have B1 : Hid (Below AW.heap.size AW w1) := hb1
  clear hu hb1
  have Z1 : Hid ((w1.alloc (.cells Tryz.zeroCells78 78)).heap[w1.heap.size]? = some (.cells Tryz.zeroCells78 78 (0, 0))) := heap_alloc_last _ _
  go_wp2_with (refine wpList_store_row rfl 78 _ _ rfl w1.heap.size cs rfl rfl _ _ Z1.out (by rw [U.out.1]; exact u256_info) (by rw [U.out.1]; exact u256_zero.1) (u256_one U.out) ?_)
  obtain ⟨AR, eR⟩ : ∃ AR, AR = (w1.alloc (.cells Tryz.zeroCells78 78)).setRow w1.heap.size cs := ⟨_, rfl⟩
  have T1 : Hid (Tb w1.heap.size AR) := by rw [eR]; exact ⟨cs, setRow_heap _ _ _ _ _ _ Z1.out, U.out⟩
  have AR1 : Hid (Below w.heap.size w AR) := by rw [eR]; exact (AB.out.trans ((B1.out.trans (((Below.refl _ _).alloc (Nat.le_refl _) _).mono B1.out.size)).mono AB.out.size)).trans ⟨rfl, rfl, rfl, by simp [World.setRow], fun k hk => setRow_other _ _ _ _ (by have := AB.out.size; have := B1.out.size; omega)⟩
  have AX1 : Hid (AR.heap[w.heap.size]? = some (.cells #[.int .u8 0, .int .u8 0, .int .u8 0, .int .u8 0] 54 (0, 0))) := by
    have h1 : w.heap.size < AW.heap.size := blk_in AX.out
    have h2 := B1.out.size
    rw [eR, setRow_other _ _ _ _ (by omega), Below.heap_alloc _ _ _ (by omega)]
    exact (B1.out.block _ h1).trans AX.out
  try rw [← eR]
  clear eR
  go_loopw [4, 10] (fun s i wr => ∃ (k : Nat) (v : Int), k ≤ n ∧ s = .int .u32 v ∧ i = .int .i64 k ∧ wr = AR) (fun _ i _ => n - (intOf i).toNat)
  case atStart => exact ⟨0, _, Nat.zero_le _, rfl, rfl, rfl⟩
  case round =>
    obtain ⟨k, v, hk, rfl, rfl, hw⟩ := hrel
    rw [hw]
    clear hw wr
    by_cases hlt : k < n
    · obtain ⟨a, b, rfl, hab, hcell⟩ := HC.out k hlt
      have f0 : AR.cell? (a.add k) = some (.int .u8 b) := (AR1.out.cell (by rw [add_block]; exact hab)).trans hcell
      have kl : (k : Int) < n := by omega
      have LT : Hid (k < n) := hlt
      have ek : wrap64 ((k : Int) + 1) = (k : Int) + 1 := by have := HN.out; unfold wrap64; omega
      obtain ⟨x0, x1⟩ := bits_u8 .xor (v % 256) b
      obtain ⟨m, fm⟩ := T1.out.cell (bits .xor .u8 (v % 256) b).toNat (by omega)
      clear hlt hab hcell hk
      go_wp2
      try rw [ek]
      exact ⟨⟨k + 1, _, Nat.succ_le_of_lt LT.out, rfl, rfl, trivial⟩, msr LT.out⟩
    · have kl : ¬ (k : Int) < n := by omega
      clear hlt hk
      go_wp2_with (refine wpList_store_row rfl 54 _ _ rfl w.heap.size _ rfl rfl _ _ AX1.out (by kernel_rfl) rfl (by kernel_rfl) ?_)
      refine bodyPost_ret (v := .agg _) (results_cell_row Tryz.results15 _ _ w.heap.size _ _ (0, 0) _ (by first | rfl | simp [Act.put]) (setRow_heap _ _ _ _ _ _ AX1.out) Tryz.underlying54 rfl (by kernel_rfl)) rfl ⟨⟨_, _, _, _, rfl⟩, ?_⟩
      exact row_bel AR1.out (Nat.le_refl _) _
end Go.Proofs.YtpcjnhffpkpchaaGreat
namespace Go.Proofs.YtpcjnhffpkpchaaGreat
set_option linter.unusedVariables false
open Go.RowKit
def mM : ImR := ⟨⟨#[77]⟩, [], [], []⟩
theorem chk_mM : chk mM = (0, 0, 0) := by
  unfold chk
  rw [if_neg (by decide +kernel), if_neg (by decide), if_neg (by decide), if_neg (by decide)]
  rfl
theorem mM_ok : ImOk mM := by
  unfold ImOk mM shT
  exact ⟨by decide, fun c h => (List.not_mem_nil h).elim, fun c h => (List.not_mem_nil h).elim, fun c h => (List.not_mem_nil h).elim, by decide, by decide, by decide⟩
theorem CheckM_of (w : World) : Calls Tryz.prog 13 #[.agg #[.string ⟨#[77]⟩, .slice none 0 0, .slice none 0 0, .slice none 0 0]] w fun e w' => e = .returned (.tuple #[.int .i64 0, .int .i64 0, .int .i64 0]) ∧ Below w.heap.size w w' := by
  have h := CheckI_of mM none none none 0 0 0 w (S := fun _ => False) (fun b h => h.elim) ⟨RwF.nil _ _ _ _, RwF.nil _ _ _ _, RwF.nil _ _ _ _⟩ mM_ok
  rw [chk_mM] at h
  exact h
theorem Wq.new (V : World) : Wq V.heap.size V.heap.size [] (V.alloc (.cells #[.slice none 0 0] 52 (0, 0))) := by
  unfold Wq U8s
  exact ⟨Nat.le_refl _, fun v h => (List.not_mem_nil h).elim, .slice none 0 0, heap_alloc_last _ _, World.ownsRow_nil _ _ _ _, by simp [Value.ownBlock]⟩
theorem Wq.full {B g : Nat} {bs : List Value} {V : World} (h : Wq B g bs V) (hl : 0 < bs.length) : ∃ k c, V.heap[g]? = some (.cells #[.slice (some ⟨k, 0, none⟩) bs.length c] 52 (0, 0)) ∧ V.ownsRow B 5 1 (.slice (some ⟨k, 0, none⟩) bs.length c) bs.length bs ∧ k < V.heap.size ∧ ∀ (j : Nat) u, bs[j]? = some u → V.cell? ⟨k, j, none⟩ = some u := by
  obtain ⟨_, _, v, h1, h2, _⟩ := h
  rcases h2.2 with ⟨rfl, h0⟩ | ⟨k, cap, cur, rfl, hx⟩
  · omega
  · refine ⟨k, cap, h1, h2, blk_in hx.2.1, fun j u hu => ?_⟩
    have := h2.cells (g := k) rfl j u hu
    rw [Addr.add_mid] at this
    simpa using this
set_option maxRecDepth 20000 in
set_option maxHeartbeats 4000000 in
theorem EncodeM_of (w : World) : Calls Tryz.prog 5 #[.agg #[.string ⟨#[77]⟩, .slice none 0 0, .slice none 0 0, .slice none 0 0]] w fun e w' => (∃ g c, e = .returned (.tuple #[.slice (some ⟨g, 0, none⟩) 41 c, .int .i64 0]) ∧ w'.cell? ⟨g, 0, none⟩ = some (.int .u8 114) ∧ w'.cell? ⟨g, 12, none⟩ = some (.int .u8 77)) ∧ Below w.heap.size w w' := by
  obtain ⟨AW, eW⟩ : ∃ AW, AW = w.alloc (.cells #[.string ⟨#[77]⟩, .slice none 0 0, .slice none 0 0, .slice none 0 0] 26 (0, 0)) := ⟨_, rfl⟩
  have AB : Hid (Below w.heap.size w AW) := by rw [eW]; exact (Below.refl _ _).alloc (Nat.le_refl _) _
  have AX : Hid (AW.heap[w.heap.size]? = some (.cells #[.string ⟨#[77]⟩, .slice none 0 0, .slice none 0 0, .slice none 0 0] 26 (0, 0))) := by rw [eW]; exact heap_alloc_last _ _
  have i0 : AW.cell? ⟨w.heap.size, 0, none⟩ = some (.string ⟨#[77]⟩) := by simp [World.cell?, AX.out]
  have i1 : AW.cell? ⟨w.heap.size, 1, none⟩ = some (.slice none 0 0) := by simp [World.cell?, AX.out]
  have i2 : AW.cell? ⟨w.heap.size, 2, none⟩ = some (.slice none 0 0) := by simp [World.cell?, AX.out]
  have i3 : AW.cell? ⟨w.heap.size, 3, none⟩ = some (.slice none 0 0) := by simp [World.cell?, AX.out]
  go_enter Tryz.func5, Tryz.ntmps5
  go_upto_region 1 with fail
  rw [← eW]
  clear eW
  go_wp2_with (go_at_call 13; refine (CheckM_of _).mono ?_)
  first | (rintro e w1 ⟨he, hb1⟩) | (rintro e w1 he hb1)
  subst he
  have B1 : Hid (Below AW.heap.size AW w1) := hb1
  have X1 : Hid (w1.heap[w.heap.size]? = some (.cells #[.string ⟨#[77]⟩, .slice none 0 0, .slice none 0 0, .slice none 0 0] 26 (0, 0))) := (hb1.block _ (blk_in AX.out)).trans AX.out
  clear hb1 i0 i1 i2 i3
  obtain ⟨g, eg⟩ : ∃ g, g = w1.heap.size := ⟨_, rfl⟩
  obtain ⟨w2, e2⟩ : ∃ w2, w2 = w1.alloc (.cells #[.slice none 0 0] 52 (0, 0)) := ⟨_, rfl⟩
  have H2 : Hid (Wq g g [] w2) := by rw [e2, eg]; exact Wq.new _
  have B2 : Hid (Below g w1 w2) := by rw [e2, eg]; exact (Below.refl _ _).alloc (Nat.le_refl _) _
  have X2 : Hid (w2.heap[w.heap.size]? = some (.cells #[.string ⟨#[77]⟩, .slice none 0 0, .slice none 0 0, .slice none 0 0] 26 (0, 0))) := (B2.out.block _ (by rw [eg]; exact blk_in X1.out)).trans X1.out
  have i0 : w2.cell? ⟨w.heap.size, 0, none⟩ = some (.string ⟨#[77]⟩) := by simp [World.cell?, X2.out]
  have i1 : w2.cell? ⟨w.heap.size, 1, none⟩ = some (.slice none 0 0) := by simp [World.cell?, X2.out]
  have i2 : w2.cell? ⟨w.heap.size, 2, none⟩ = some (.slice none 0 0) := by simp [World.cell?, X2.out]
  have i3 : w2.cell? ⟨w.heap.size, 3, none⟩ = some (.slice none 0 0) := by simp [World.cell?, X2.out]
  go_upto_region 5 with fail
  rw [← e2, ← eg]
  have GB : Hid (Below w.heap.size w w2) := AB.out.trans ((B1.out.trans (B2.out.mono (by rw [eg]; exact B1.out.size))).mono AB.out.size)
  have WG : Hid (w.heap.size ≤ g) := by rw [eg]; exact Nat.le_of_lt (blk_in X1.out)
  clear e2 eg
  go_wp2_with (go_at_call 14; refine (imageM_of g g _ H2.out).mono ?_)
  first | (rintro e w3 ⟨he, ⟨l, l37, l0, l12, h3⟩, q3⟩) | (rintro e w3 he ⟨⟨l, l37, l0, l12, h3⟩, q3⟩) | (rintro e w3 he ⟨l, l37, l0, l12, h3⟩ q3) | (rintro e w3 he l l37 l0 l12 h3 q3)
  subst he
  have GB3 : Hid (Below w.heap.size w w3) := GB.out.trans (q3.b.mono WG.out)
  obtain ⟨k, c, hg, hown, hk, hcells⟩ := h3.full (by omega)
  have hu8 := h3.u8
  rw [l37] at hg hown
  have G3 : Hid (w3.heap[g]? = some (.cells #[.slice (some ⟨k, 0, none⟩) 37 c] 52 (0, 0))) := hg
  have O3 : Hid (w3.ownsRow g 5 1 (.slice (some ⟨k, 0, none⟩) 37 c) 37 l) := hown
  have SC : Hid (∀ j : Nat, j < 37 → ∃ a b, (some ⟨k, 0, none⟩ : Option Addr) = some a ∧ a.block < w3.heap.size ∧ w3.cell? (a.add j) = some (.int .u8 b)) := fun j hj => by
    obtain ⟨b, hb⟩ := hu8 _ (List.getElem_mem (l := l) (n := j) (by omega))
    refine ⟨_, b, rfl, hk, ?_⟩
    rw [Addr.add_mid, ← hb, Nat.zero_add]
    exact hcells j _ (List.getElem?_eq_getElem (by omega))
  have L37 : Hid (l.length = 37) := l37
  have L0 : Hid (l[0]? = some (.int .u8 114)) := l0
  have L12 : Hid (l[12]? = some (.int .u8 77)) := l12
  clear h3 q3 hg hown hu8 hcells l37 l0 l12 i0 i1 i2 i3
  have d0 : w3.cell? ⟨g, 0, none⟩ = some (.slice (some ⟨k, 0, none⟩) 37 c) := by simp [World.cell?, G3.out]
  go_wp2_with (go_at_call 15; refine (sumOf_of _ 37 c _ (by decide) SC.out).mono ?_)
  first | (rintro e w4 ⟨⟨b0, b1, b2, b3, he⟩, hb4⟩) | (rintro e w4 b0 b1 b2 b3 he hb4) | (rintro e w4 ⟨b0, b1, b2, b3, he⟩ hb4)
  subst he
  have B4 : Hid (Below w3.heap.size w3 w4) := hb4
  clear hb4 d0
  obtain ⟨w5, e5⟩ : ∃ w5, w5 = w4.alloc (.cells #[.int .u8 b0, .int .u8 b1, .int .u8 b2, .int .u8 b3] 54 (0, 0)) := ⟨_, rfl⟩
  have X5 : Hid (w5.heap[w4.heap.size]? = some (.cells #[.int .u8 b0, .int .u8 b1, .int .u8 b2, .int .u8 b3] 54 (0, 0))) := by rw [e5]; exact heap_alloc_last _ _
  have B5 : Hid (Below w3.heap.size w3 w5) := by rw [e5]; exact B4.out.trans (((Below.refl _ _).alloc (Nat.le_refl _) _).mono B4.out.size)
  go_upto_region 9 with fail
  rw [← e5]
  clear e5
  have d0 : w5.cell? ⟨g, 0, none⟩ = some (.slice (some ⟨k, 0, none⟩) 37 c) := (B5.out.cell (p := ⟨g, 0, none⟩) (blk_in G3.out)).trans (by simp [World.cell?, G3.out])
  have O5 : Hid (w5.drew.ownsRow g 5 1 (.slice (some ⟨k, 0, none⟩) 37 c) 37 l) := O3.out.kept (row := none) ⟨B5.out.os, B5.out.tape, B5.out.output, B5.out.size, fun j hj _ => B5.out.block j hj⟩ (by simp [Value.ownBlock])
  have S5 : Hid (∀ (j : Nat) u, ([.int .u8 b0, .int .u8 b1, .int .u8 b2, .int .u8 b3] : List Value)[j]? = some u → w5.drew.cell? ((⟨w4.heap.size, 0, none⟩ : Addr).add j) = some u) := fun j u hu => by
    rw [Addr.add_mid, Nat.zero_add]
    show w5.cell? _ = _
    rw [World.cell?, X5.out]
    simpa using hu
  have GK : Hid (w.heap.size ≤ g ∧ g ≤ w5.heap.size) := ⟨WG.out, by have := blk_in G3.out; have := B5.out.size; omega⟩
  have GB5 : Hid (Below w.heap.size w w5.drew) := (GB3.out.trans (B5.out.mono GB3.out.size)).drew
  obtain ⟨i, hi, hz, hs, hy⟩ := u8_info
  go_region_law ((rw [if_pos (by rfl)]; refine wp_append_own _ _ _ 28 rfl g 5 i _ 1 1 Tryz.underlying28 hi hz hs hy rfl (by decide) _ 37 l rfl O5.out ⟨w4.heap.size, 0, none⟩ 4 4 [.int .u8 b0, .int .u8 b1, .int .u8 b2, .int .u8 b3] rfl rfl S5.out (by intro u hu; simp at hu; rcases hu with rfl | rfl | rfl | rfl <;> rfl) (by decide) (by decide) GK.out.2 ?_; intro v' w' k1 k2 k3))
  have k2' : w5.drew.grownBy w' (Value.slice (some ⟨k, 0, none⟩) 37 c).ownBlock := k2
  have B6 : Hid (Below w.heap.size w w') := GB5.out.grown k2' (by have := GK.out; show _ ≤ w5.heap.size; omega) (fun j hj => by have := (O5.out.lt j hj).1; have := GK.out.1; omega)
  obtain ⟨r, cap, hv, hr⟩ : ∃ r cap, v' = .slice (some ⟨r, 0, none⟩) 41 cap ∧ ∀ (j : Nat) u, (l ++ [.int .u8 b0, .int .u8 b1, .int .u8 b2, .int .u8 b3])[j]? = some u → w'.cell? ⟨r, j, none⟩ = some u := by
    rcases k1.2 with ⟨_, h0⟩ | ⟨r, cap, cur, hv, _⟩
    · omega
    · refine ⟨r, cap, hv, fun j u hu => ?_⟩
      have := k1.cells (g := r) (by rw [hv]; rfl) j u hu
      rw [Addr.add_mid] at this
      simpa using this
  subst hv
  have C0 : Hid (w'.cell? ⟨r, 0, none⟩ = some (.int .u8 114)) := hr 0 _ (by rw [List.getElem?_append_left (by rw [L37.out]; decide)]; exact L0.out)
  have C12 : Hid (w'.cell? ⟨r, 12, none⟩ = some (.int .u8 77)) := hr 12 _ (by rw [List.getElem?_append_left (by rw [L37.out]; decide)]; exact L12.out)
  clear k1 k2 k3 k2' hr hi hz hs hy d0
  go_wp2
  exact bodyPost_ret (v := .tuple #[.slice (some ⟨r, 0, none⟩) 41 cap, .int .i64 0]) (by simp [results, Tryz.results5, go_sem]) rfl ⟨⟨r, cap, rfl, C0.out, C12.out⟩, B6.out⟩
end Go.Proofs.YtpcjnhffpkpchaaGreat
namespace Go.Proofs.YtpcjnhffpkpchaaGreat
set_option linter.unusedVariables false
open Go.RowKit
set_option maxRecDepth 20000 in
set_option maxHeartbeats 4000000 in
theorem awake_of (w : World) : Calls Tryz.prog 8 #[] w fun e w' => e = .returned (.bool true) ∧ Below w.heap.size w w' := by
  go_enter Tryz.func8, Tryz.ntmps8
  go_wp2_with (go_at_call 5; refine (EncodeM_of _).mono ?_)
  first | (rintro e w1 ⟨⟨g, c, he, h0, h12⟩, hb1⟩) | (rintro e w1 g c he h0 h12 hb1) | (rintro e w1 ⟨g, c, he, h0, h12⟩ hb1)
  subst he
  have B1 : Hid (Below w.heap.size w w1) := hb1
  clear hb1
  go_wp2
  go_ret
  exact ⟨rfl, B1.out⟩
end Go.Proofs.YtpcjnhffpkpchaaGreat
