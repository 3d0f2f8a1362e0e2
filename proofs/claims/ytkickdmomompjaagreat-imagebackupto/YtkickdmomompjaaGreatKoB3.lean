/- image: lists of codes and tasks; an image written exactly; no statement of the seat is proved here. -/
import Derived.Test.YtkickdmomompjaaGreatKoB2
import Derived.Test.YtkickdmomompjaaGreatEnBK
import Derived.Test.YtkickdmomompjaaGreatKoB1
import Derived.Test.YtkickdmomompjaaGreatKoA1
namespace Go.Proofs.YtkickdmomompjaaGreat
set_option linter.unusedVariables false
open Go.RowKit
/-- The four bytes of a check sum. -/
def cr4 (c : BitVec 32) : Value := .agg #[.int .u8 (uW c % (256 : Int)), .int .u8 (uW c / (256 : Int) % (256 : Int)), .int .u8 (uW c / (65536 : Int) % (256 : Int)), .int .u8 (uW c / (16777216 : Int) % (256 : Int))]
theorem shr_8 (a : BitVec 32) : uW a / (256 : Int) = uW (a >>> 8) := by
  unfold uW
  rw [BitVec.toNat_ushiftRight, Nat.shiftRight_eq_div_pow]
  omega
theorem crB_m (c : BitVec 32) (x : Nat) (hx : x < 256) : bits .xor .u32 (uW c / (256 : Int)) (uW (taB ((c ^^^ BitVec.ofNat 32 x) &&& 255#32).toNat)) = uW (crB c (BitVec.ofNat 32 x)) := by
  rw [shr_8, xor_u3, crB_tab c (BitVec.ofNat 32 x) (by rw [BitVec.lt_def, BitVec.toNat_ofNat]; show x % 4294967296 < 256; omega)]
  unfold taB
  rw [BitVec.ofNat_toNat, BitVec.setWidth_eq]
theorem ones_u3 : uW 4294967295#32 = 4294967295 := by decide
theorem tab_lt (c : BitVec 32) (x : Nat) (hx : x < 256) : ((c ^^^ BitVec.ofNat 32 x) &&& 255#32).toNat < 256 := by
  rw [BitVec.toNat_and]
  show (c ^^^ BitVec.ofNat 32 x).toNat &&& 255 < 256
  rw [show (255 : Nat) = 2 ^ 8 - 1 by decide, Nat.and_two_pow_sub_one_eq_mod]
  omega
set_option maxRecDepth 20000 in
set_option maxHeartbeats 4000000 in
theorem sumOfX_of (x : Option Addr) (n c : Nat) (l : List Nat) (w : World) (hn : n ≤ 1099511627776) (hl : l.length = n) (hb : ∀ b ∈ l, b < 256) (hc : ∀ (k : Nat) b, l[k]? = some b → ∃ a, x = some a ∧ a.block < w.heap.size ∧ w.cell? (a.add k) = some (.int .u8 b)) :
    Calls Tryz.prog 11 #[.slice x n c] w fun e w' => e = .returned (cr4 (crcF l)) ∧ Below w.heap.size w w' := by
  have HC : Hid (∀ (k : Nat) b, l[k]? = some b → ∃ a, x = some a ∧ a.block < w.heap.size ∧ w.cell? (a.add k) = some (.int .u8 b)) := hc
  have HN : Hid (n ≤ 1099511627776) := hn
  have HL : Hid (l.length = n) := hl
  have HB : Hid (∀ b ∈ l, b < 256) := hb
  clear hc hn hl hb
  obtain ⟨AW, eW⟩ : ∃ AW, AW = w.alloc (.cells #[.int .u8 0, .int .u8 0, .int .u8 0, .int .u8 0] 42 (0, 0)) := ⟨_, rfl⟩
  have AB : Hid (Below w.heap.size w AW) := by rw [eW]; exact (Below.refl _ _).alloc (Nat.le_refl _) _
  have AX : Hid (AW.heap[w.heap.size]? = some (.cells #[.int .u8 0, .int .u8 0, .int .u8 0, .int .u8 0] 42 (0, 0))) := by rw [eW]; exact heap_alloc_last _ _
  go_enter Tryz.func11, Tryz.ntmps11
  go_upto_region 1 with fail
  rw [← eW]
  clear eW
  go_wp2_with (go_at_call 32; refine (byteChangesX_of _).mono ?_)
  first | (rintro e w1 ⟨⟨cs, he, hu, hx⟩, hb1⟩) | (rintro e w1 cs he hu hx hb1) | (rintro e w1 ⟨cs, he, hu, hx⟩ hb1)
  subst he
  have U : Hid (U256 cs) := hu
  have UX : Hid (∀ j : Nat, j < 256 → cs[j]? = some (.int .u32 (uW (taB j)))) := hx
  have B1 : Hid (Below AW.heap.size AW w1) := hb1
  clear hu hb1 hx
  have Z1 : Hid ((w1.alloc (.cells Tryz.zeroCells77 77)).heap[w1.heap.size]? = some (.cells Tryz.zeroCells77 77 (0, 0))) := heap_alloc_last _ _
  go_wp2_with (refine wpList_store_row rfl 77 _ _ rfl w1.heap.size cs rfl rfl _ _ Z1.out (by rw [U.out.1]; exact u256_info) (by rw [U.out.1]; exact u256_zero.1) (u256_one U.out) ?_)
  obtain ⟨AR, eR⟩ : ∃ AR, AR = (w1.alloc (.cells Tryz.zeroCells77 77)).setRow w1.heap.size cs := ⟨_, rfl⟩
  have T1 : Hid (∀ j : Nat, j < 256 → AR.cell? ⟨w1.heap.size, j, none⟩ = some (.int .u32 (uW (taB j)))) := fun j hj => by rw [eR, World.cell?, setRow_heap _ _ _ _ _ _ Z1.out]; exact UX.out j hj
  have AR1 : Hid (Below w.heap.size w AR) := by rw [eR]; exact (AB.out.trans ((B1.out.trans (((Below.refl _ _).alloc (Nat.le_refl _) _).mono B1.out.size)).mono AB.out.size)).trans ⟨rfl, rfl, rfl, by simp [World.setRow], fun k hk => setRow_other _ _ _ _ (by have := AB.out.size; have := B1.out.size; omega)⟩
  have AX1 : Hid (AR.heap[w.heap.size]? = some (.cells #[.int .u8 0, .int .u8 0, .int .u8 0, .int .u8 0] 42 (0, 0))) := by
    have h1 : w.heap.size < AW.heap.size := blk_in AX.out
    have h2 := B1.out.size
    rw [eR, setRow_other _ _ _ _ (by omega), Below.heap_alloc _ _ _ (by omega)]
    exact (B1.out.block _ h1).trans AX.out
  try rw [← eR]
  clear eR
  go_loopw [4, 10] (fun s i wr => ∃ k : Nat, k ≤ n ∧ s = .int .u32 (uW (crL 4294967295#32 (l.take k))) ∧ i = .int .i64 k ∧ wr = AR) (fun _ i _ => n - (intOf i).toNat)
  case atStart => exact ⟨0, Nat.zero_le _, by rw [List.take_zero]; show _ = Value.int .u32 (uW 4294967295#32); rw [ones_u3], rfl, rfl⟩
  case round =>
    obtain ⟨k, hk, rfl, rfl, hw⟩ := hrel
    rw [hw]
    clear hw wr
    by_cases hlt : k < n
    · obtain ⟨b, hbk⟩ : ∃ b, l[k]? = some b := ⟨_, List.getElem?_eq_getElem (by rw [HL.out]; exact hlt)⟩
      have hb := HB.out b (List.mem_of_getElem? hbk)
      obtain ⟨a, rfl, hab, hcell⟩ := HC.out k b hbk
      have f0 : AR.cell? (a.add k) = some (.int .u8 b) := (AR1.out.cell (by rw [add_block]; exact hab)).trans hcell
      have kl : (k : Int) < n := by omega
      have LT : Hid (k < n) := hlt
      have ek : wrap64 ((k : Int) + 1) = (k : Int) + 1 := by have := HN.out; unfold wrap64; omega
      have NX : Hid (crL 4294967295#32 (l.take (k + 1)) = crB (crL 4294967295#32 (l.take k)) (BitVec.ofNat 32 b)) := by
        show _ = _
        rw [List.take_add_one, hbk]
        exact crL_snoc _ _ _
      generalize crL 4294967295#32 (l.take k) = v at *
      have ix : bits .xor .u8 (uW v % (256 : Int)) b = uW ((v ^^^ BitVec.ofNat 32 b) &&& 255#32) := idx_u3 v b hb
      have it := tab_lt v b hb
      have MM : Hid (bits .xor .u32 (uW v / (256 : Int)) (uW (taB ((v ^^^ BitVec.ofNat 32 b) &&& 255#32).toNat)) = uW (crB v (BitVec.ofNat 32 b))) := crB_m v b hb
      obtain ⟨x0, x1⟩ := bits_u8 .xor (uW v % (256 : Int)) b
      have fm := T1.out _ it
      rw [show ((v ^^^ BitVec.ofNat 32 b) &&& 255#32).toNat = (bits .xor .u8 (uW v % (256 : Int)) b).toNat by rw [ix]; rfl] at fm MM
      have hr := uW_range v
      clear hlt hab hcell hk ix it hbk hb
      go_wp2
      try rw [ek]
      exact ⟨⟨k + 1, Nat.succ_le_of_lt LT.out, by rw [NX.out, ← MM.out], rfl, trivial⟩, msr LT.out⟩
    · have kl : ¬ (k : Int) < n := by omega
      have ekn : k = n := by omega
      subst ekn
      rw [show l.take k = l by rw [← HL.out, List.take_length]]
      have EX : Hid (bits .xor .u32 (uW (crL 4294967295#32 l)) 4294967295 = uW (crcF l)) := by show _ = _; rw [← ones_u3, xor_u3]; rfl
      clear hlt hk
      go_wp2_with (refine wpList_store_row rfl 42 _ _ rfl w.heap.size _ rfl rfl _ _ AX1.out (by kernel_rfl) rfl (by kernel_rfl) ?_)
      rw [EX.out]
      refine bodyPost_ret (v := cr4 (crcF l)) (results_cell_row Tryz.results11 _ _ w.heap.size _ _ (0, 0) _ (by first | rfl | simp [Act.put]) (setRow_heap _ _ _ _ _ _ AX1.out) Tryz.underlying42 rfl (by kernel_rfl)) rfl ⟨rfl, ?_⟩
      exact row_bel AR1.out (Nat.le_refl _) _
end Go.Proofs.YtkickdmomompjaaGreat
namespace Go.Proofs.YtkickdmomompjaaGreat
open Go.RowKit
/-- The check sum's four bytes. -/
def cr4N (c : BitVec 32) : List Nat := [(uW c % (256 : Int)).toNat, (uW c / (256 : Int) % (256 : Int)).toNat, (uW c / (65536 : Int) % (256 : Int)).toNat, (uW c / (16777216 : Int) % (256 : Int)).toNat]
end Go.Proofs.YtkickdmomompjaaGreat
namespace Go.Proofs.YtkickdmomompjaaGreat
set_option linter.unusedVariables false
open Go.RowKit
end Go.Proofs.YtkickdmomompjaaGreat
namespace Go.Proofs.YtkickdmomompjaaGreat
set_option linter.unusedVariables false
open Go.RowKit
theorem cr4_bv (c : BitVec 32) : bvL (cr4N c) = [.int .u8 (uW c % (256 : Int)), .int .u8 (uW c / (256 : Int) % (256 : Int)), .int .u8 (uW c / (65536 : Int) % (256 : Int)), .int .u8 (uW c / (16777216 : Int) % (256 : Int))] := by
  unfold bvL cr4N
  simp only [List.map_cons, List.map_nil, by_nat]
theorem four_new (W : World) (a b c d : Value) (t : TypeId) : ∀ j u, ([a, b, c, d] : List Value)[j]? = some u → (W.alloc (.cells #[a, b, c, d] t)).cell? ((⟨W.heap.size, 0, none⟩ : Addr).add j) = some u := by
  intro j u hj
  rw [Addr.add_mid, Nat.zero_add]
  have e := heap_alloc_last W (.cells #[a, b, c, d] t)
  rw [World.cell?, e]
  simpa using hj
theorem Sb.len {B : Nat} {l : List Nat} {x : Option Addr} {n c : Nat} {V : World} (h : Sb B l (.slice x n c) V) : n = l.length := by
  rcases h.2 with ⟨hv, h0⟩ | ⟨g, cap, cur, hv, _⟩
  · cases hv; exact h0.symm
  · cases hv; rfl
theorem Sb.cell {B : Nat} {l : List Nat} {x : Option Addr} {n c : Nat} {V : World} (h : Sb B l (.slice x n c) V) (j b : Nat) (hj : l[j]? = some b) : ∃ a, x = some a ∧ a.block < V.heap.size ∧ V.cell? (a.add j) = some (.int .u8 (b : Int)) := by
  have hl := (List.getElem?_eq_some_iff.1 hj).1
  rcases h.2 with ⟨hv, h0⟩ | ⟨g, cap, cur, hv, hx⟩
  · omega
  · cases hv
    have q := h
    unfold Sb at q
    have := q.cells (g := g) rfl j (.int .u8 (b : Int)) (by unfold bvL; rw [List.getElem?_map, hj]; rfl)
    exact ⟨_, rfl, blk_in hx.2.1, this⟩
end Go.Proofs.YtkickdmomompjaaGreat
namespace Go.Proofs.YtkickdmomompjaaGreat
set_option linter.unusedVariables false
open Go.RowKit
set_option maxRecDepth 20000 in
set_option maxHeartbeats 4000000 in
theorem wlFlat (B g : Nat) (bs : List Nat) (l : List FlR) (x : Option Addr) (c : Nat) (w : World) {S : Nat → Prop} (h : Wb B g bs w) (hS : ∀ b, S b → b < B) (ha : RwF 8 (FlP S w) S w x l) (ho : ∀ e ∈ l, FlS e) (hl : bs.length + 8 + l.length * 68800000000 ≤ 6000000000000) (hn : l.length ≤ 1048576) :
    Calls Tryz.prog 28 #[.pointer (some ⟨g, 0, none⟩), .slice x l.length c, .func (.func 29) #[.pointer (some ⟨g, 0, none⟩)] #[]] w fun e w' => e = .returned (.tuple #[]) ∧ Wb B g (bs ++ lsN flbN l) w' ∧ Bq B w w' := by
  have HB := h.lt
  have H : Hid (Wb B g bs w) := h
  have HA : Hid (∀ V, Bq B w V → RwF 8 (FlP S V) S V x l) := fun V hV => ha.frK keptF (fun q hq => hV.b.cell (hS _ hq))
  have HN : Hid (l.length ≤ 1048576) := hn
  have HS : Hid (∀ b, S b → b < B) := hS
  have OK : Hid (∀ e ∈ l, FlS e) := ho
  have HC : ∀ k : Nat, ((l.take k).flatMap flbN).length ≤ l.length * 68800000000 := fun k => Nat.le_trans (flat_le _ 68800000000 (l.take k) (fun e he => flbN_len (ho e (List.mem_of_mem_take he)))) (Nat.mul_le_mul_right _ (List.length_take_le' k l))
  have HT : Hid (∀ k, (bs ++ nbN l.length ++ (l.take k).flatMap flbN).length ≤ 6000000000000) := fun k => by rw [List.length_append, List.length_append, nbN_len]; have := HC k; omega
  have N0 : Hid (∀ W, Wb B g bs W → Calls Tryz.prog 47 #[.pointer (some ⟨g, 0, none⟩), .int .i64 l.length] W fun e w' => e = .returned (.tuple #[]) ∧ Wb B g (bs ++ nbN l.length) w' ∧ Bq B W w') := fun W hW => numberX B g bs _ W hW (by omega)
  clear h hS ha ho hl hn HC
  have E0 : ∀ (args : Array Value) (W : World), (callFunc 29 args).run Tryz.prog W = .ok (.enter 29 args) W := fun _ _ => by kernel_rfl
  go_enter Tryz.func28, Tryz.ntmps28
  go_wp2_with (go_at_call 47; refine (N0.out _ H.out).mono ?_)
  first | (rintro e w1 ⟨he, h1, hb1⟩; have he' := he) | (rintro e w1 he h1 hb1)
  subst he
  have H1 : Hid (Wb B g (bs ++ nbN l.length) w1) := h1
  have B1 : Hid (Bq B w w1) := hb1
  clear h1 hb1 N0 H
  go_upto_region 2 with fail
  go_loopw [14] (fun i wr => ∃ k : Nat, k ≤ l.length ∧ i = .int .i64 k ∧ Wb B g (bs ++ nbN l.length ++ (l.take k).flatMap flbN) wr ∧ Bq B w wr) (fun i _ => l.length - (intOf i).toNat)
  case atStart => exact ⟨0, Nat.zero_le _, rfl, by rw [List.take_zero, List.flatMap_nil, List.append_nil]; exact H1.out, B1.out⟩
  case round =>
    obtain ⟨k, hk, rfl, hw, hb⟩ := hrel
    have HW : Hid (Wb B g (bs ++ nbN l.length ++ (l.take k).flatMap flbN) wr) := hw
    have HQ : Hid (Bq B w wr) := hb
    clear hw hb H1 B1
    by_cases hlt : k < l.length
    · obtain ⟨a, rfl⟩ := (HA.out wr HQ.out).some (by omega)
      obtain ⟨s, sv, se, sb, ⟨sx, sc, sy, sd, rfl, sq⟩, sk⟩ := (HA.out wr HQ.out).el k hlt
      have e0 := sk.c0
      have e1 := sk.cp 0 _ rfl
      have e2 := sk.cp 1 _ rfl
      have e3 := sk.cp 2 _ rfl
      have e4 := sk.cp 3 _ rfl
      have e5 := sk.cp 4 _ rfl
      have e6 := sk.cp 5 _ rfl
      have e7 := sk.cp 6 _ rfl
      have SE : Hid (l[k]? = some s) := se
      have LT : Hid (k < l.length) := hlt
      have kl : (k : Int) < l.length := by omega
      have ek : wrap64 ((k : Int) + 1) = (k : Int) + 1 := by have := HN.out; unfold wrap64; omega
      have TK : Hid (bs ++ nbN l.length ++ (l.take (k + 1)).flatMap flbN = bs ++ nbN l.length ++ (l.take k).flatMap flbN ++ flbN s) := by show _ = _; rw [List.take_add_one, se, List.flatMap_append]; simp [List.append_assoc]
      have SO := OK.out s (List.mem_of_getElem? se)
      have SS := sq
      have za := block_lt_of_cell e0
      obtain ⟨AR, eR⟩ : ∃ AR, AR = wr.alloc (.cells #[.string s.nm, .int .i64 s.wh, .int .i64 s.ce, .int .i64 s.ba, .int .i64 s.rg, .int .i64 s.sl, .slice sx s.os.length sc, .slice sy s.ls.length sd] 66 (0, 0)) := ⟨_, rfl⟩
      have RB : Hid (Below wr.heap.size wr AR) := by rw [eR]; exact (Below.refl _ _).alloc (Nat.le_refl _) _
      have RX : Hid (AR.heap[wr.heap.size]? = some (.cells #[.string s.nm, .int .i64 s.wh, .int .i64 s.ce, .int .i64 s.ba, .int .i64 s.rg, .int .i64 s.sl, .slice sx s.os.length sc, .slice sy s.ls.length sd] 66 (0, 0))) := by rw [eR]; exact heap_alloc_last _ _
      have WR : Hid (Wb B g (bs ++ nbN l.length ++ (l.take k).flatMap flbN) AR) := Wq.below HW.out RB.out
      have QR : Hid (Bq B w AR) := HQ.out.trans (Bq.up RB.out (by have := HQ.out.b.size; omega))
      have R0 : Hid (Calls Tryz.prog 29 #[.pointer (some ⟨g, 0, none⟩), FlV s sx sy sc sd] AR fun e w' => e = .returned (.tuple #[]) ∧ Wb B g (bs ++ nbN l.length ++ (l.take (k + 1)).flatMap flbN) w' ∧ Bq B AR w') := by
        rw [TK.out]
        have HT' := HT.out k
        have hW := WR.out
        generalize bs ++ nbN l.length ++ (l.take k).flatMap flbN = bz at *
        exact codeX B g bz s sx sy sc sd AR hW HT' HS.out (sq.fr (fun q hqq => RB.out.cell (Nat.lt_of_lt_of_le (HS.out _ hqq) (by have := HB; have := HQ.out.b.size; omega)))) SO
      clear hlt se sk sb hk SO sq SS
      go_upto_region 4 with fail
      rw [← eR]
      clear eR za e0 e1 e2 e3 e4 e5 e6 e7
      have i0 : AR.cell? ⟨wr.heap.size, 0, none⟩ = some (.string s.nm) := by simp [World.cell?, RX.out]
      have i1 : AR.cell? ⟨wr.heap.size, 1, none⟩ = some (.int .i64 s.wh) := by simp [World.cell?, RX.out]
      have i2 : AR.cell? ⟨wr.heap.size, 2, none⟩ = some (.int .i64 s.ce) := by simp [World.cell?, RX.out]
      have i3 : AR.cell? ⟨wr.heap.size, 3, none⟩ = some (.int .i64 s.ba) := by simp [World.cell?, RX.out]
      have i4 : AR.cell? ⟨wr.heap.size, 4, none⟩ = some (.int .i64 s.rg) := by simp [World.cell?, RX.out]
      have i5 : AR.cell? ⟨wr.heap.size, 5, none⟩ = some (.int .i64 s.sl) := by simp [World.cell?, RX.out]
      have i6 : AR.cell? ⟨wr.heap.size, 6, none⟩ = some (.slice sx s.os.length sc) := by simp [World.cell?, RX.out]
      have i7 : AR.cell? ⟨wr.heap.size, 7, none⟩ = some (.slice sy s.ls.length sd) := by simp [World.cell?, RX.out]
      go_wp2_with fail
      refine (R0.out).mono ?_
      first | (rintro e w2 ⟨he, h1, hb1⟩; have he' := he) | (rintro e w2 he h1 hb1)
      subst he
      have H2 : Hid (Wb B g (bs ++ nbN l.length ++ (l.take (k + 1)).flatMap flbN) w2) := h1
      have Q2 : Hid (Bq B w w2) := QR.out.trans hb1
      clear h1 hb1 R0 i0 i1 i2 i3 i4 i5 i6 i7
      go_wp2
      try rw [ek]
      exact ⟨⟨k + 1, Nat.succ_le_of_lt LT.out, rfl, H2.out, Q2.out⟩, msrE LT.out⟩
    · have kl : ¬ (k : Int) < l.length := by omega
      have ek : k = l.length := by omega
      subst ek
      rw [List.take_length, List.append_assoc] at HW
      clear hlt hk
      go_wp2
      go_end0
      exact ⟨rfl, HW.out, HQ.out⟩
set_option maxRecDepth 20000 in
set_option maxHeartbeats 4000000 in
theorem wlJob (B g : Nat) (bs : List Nat) (l : List JbR) (x : Option Addr) (c : Nat) (w : World) {S : Nat → Prop} (h : Wb B g bs w) (hS : ∀ b, S b → b < B) (ha : RwF 7 (JbP S w) S w x l) (ho : ∀ e ∈ l, JbOk e) (hl : bs.length + 8 + l.length * 22000000 ≤ 6000000000000) (hn : l.length ≤ 1048576) :
    Calls Tryz.prog 30 #[.pointer (some ⟨g, 0, none⟩), .slice x l.length c, .func (.func 31) #[.pointer (some ⟨g, 0, none⟩)] #[]] w fun e w' => e = .returned (.tuple #[]) ∧ Wb B g (bs ++ lsN jbN l) w' ∧ Bq B w w' := by
  have HB := h.lt
  have H : Hid (Wb B g bs w) := h
  have HA : Hid (∀ V, Bq B w V → RwF 7 (JbP S V) S V x l) := fun V hV => ha.frK keptJ (fun q hq => hV.b.cell (hS _ hq))
  have HN : Hid (l.length ≤ 1048576) := hn
  have HS : Hid (∀ b, S b → b < B) := hS
  have OK : Hid (∀ e ∈ l, JbOk e) := ho
  have HC : ∀ k : Nat, ((l.take k).flatMap jbN).length ≤ l.length * 22000000 := fun k => Nat.le_trans (flat_le _ 22000000 (l.take k) (fun e he => jbN_len (ho e (List.mem_of_mem_take he)))) (Nat.mul_le_mul_right _ (List.length_take_le' k l))
  have HT : Hid (∀ k, (bs ++ nbN l.length ++ (l.take k).flatMap jbN).length ≤ 6000000000000) := fun k => by rw [List.length_append, List.length_append, nbN_len]; have := HC k; omega
  have N0 : Hid (∀ W, Wb B g bs W → Calls Tryz.prog 47 #[.pointer (some ⟨g, 0, none⟩), .int .i64 l.length] W fun e w' => e = .returned (.tuple #[]) ∧ Wb B g (bs ++ nbN l.length) w' ∧ Bq B W w') := fun W hW => numberX B g bs _ W hW (by omega)
  clear h hS ha ho hl hn HC
  have E0 : ∀ (args : Array Value) (W : World), (callFunc 31 args).run Tryz.prog W = .ok (.enter 31 args) W := fun _ _ => by kernel_rfl
  go_enter Tryz.func30, Tryz.ntmps30
  go_wp2_with (go_at_call 47; refine (N0.out _ H.out).mono ?_)
  first | (rintro e w1 ⟨he, h1, hb1⟩; have he' := he) | (rintro e w1 he h1 hb1)
  subst he
  have H1 : Hid (Wb B g (bs ++ nbN l.length) w1) := h1
  have B1 : Hid (Bq B w w1) := hb1
  clear h1 hb1 N0 H
  go_upto_region 2 with fail
  go_loopw [14] (fun i wr => ∃ k : Nat, k ≤ l.length ∧ i = .int .i64 k ∧ Wb B g (bs ++ nbN l.length ++ (l.take k).flatMap jbN) wr ∧ Bq B w wr) (fun i _ => l.length - (intOf i).toNat)
  case atStart => exact ⟨0, Nat.zero_le _, rfl, by rw [List.take_zero, List.flatMap_nil, List.append_nil]; exact H1.out, B1.out⟩
  case round =>
    obtain ⟨k, hk, rfl, hw, hb⟩ := hrel
    have HW : Hid (Wb B g (bs ++ nbN l.length ++ (l.take k).flatMap jbN) wr) := hw
    have HQ : Hid (Bq B w wr) := hb
    clear hw hb H1 B1
    by_cases hlt : k < l.length
    · obtain ⟨a, rfl⟩ := (HA.out wr HQ.out).some (by omega)
      obtain ⟨s, sv, se, sb, ⟨sx, sc, sy, sd, rfl, sq⟩, sk⟩ := (HA.out wr HQ.out).el k hlt
      have e0 := sk.c0
      have e1 := sk.cp 0 _ rfl
      have e2 := sk.cp 1 _ rfl
      have e3 := sk.cp 2 _ rfl
      have e4 := sk.cp 3 _ rfl
      have e5 := sk.cp 4 _ rfl
      have e6 := sk.cp 5 _ rfl
      have SE : Hid (l[k]? = some s) := se
      have LT : Hid (k < l.length) := hlt
      have kl : (k : Int) < l.length := by omega
      have ek : wrap64 ((k : Int) + 1) = (k : Int) + 1 := by have := HN.out; unfold wrap64; omega
      have TK : Hid (bs ++ nbN l.length ++ (l.take (k + 1)).flatMap jbN = bs ++ nbN l.length ++ (l.take k).flatMap jbN ++ jbN s) := by show _ = _; rw [List.take_add_one, se, List.flatMap_append]; simp [List.append_assoc]
      have SO := OK.out s (List.mem_of_getElem? se)
      have SS := sq
      have za := block_lt_of_cell e0
      obtain ⟨AR, eR⟩ : ∃ AR, AR = wr.alloc (.cells #[.string s.nm, .int .i64 s.iv, .int .i64 s.sg, .int .i64 s.pr, .slice sx s.cs.length sc, .slice sy s.bs.length sd, .int .i64 s.bd] 61 (0, 0)) := ⟨_, rfl⟩
      have RB : Hid (Below wr.heap.size wr AR) := by rw [eR]; exact (Below.refl _ _).alloc (Nat.le_refl _) _
      have RX : Hid (AR.heap[wr.heap.size]? = some (.cells #[.string s.nm, .int .i64 s.iv, .int .i64 s.sg, .int .i64 s.pr, .slice sx s.cs.length sc, .slice sy s.bs.length sd, .int .i64 s.bd] 61 (0, 0))) := by rw [eR]; exact heap_alloc_last _ _
      have WR : Hid (Wb B g (bs ++ nbN l.length ++ (l.take k).flatMap jbN) AR) := Wq.below HW.out RB.out
      have QR : Hid (Bq B w AR) := HQ.out.trans (Bq.up RB.out (by have := HQ.out.b.size; omega))
      have R0 : Hid (Calls Tryz.prog 31 #[.pointer (some ⟨g, 0, none⟩), .agg #[.string s.nm, .int .i64 s.iv, .int .i64 s.sg, .int .i64 s.pr, .slice sx s.cs.length sc, .slice sy s.bs.length sd, .int .i64 s.bd]] AR fun e w' => e = .returned (.tuple #[]) ∧ Wb B g (bs ++ nbN l.length ++ (l.take (k + 1)).flatMap jbN) w' ∧ Bq B AR w') := by
        rw [TK.out]
        have HT' := HT.out k
        have hW := WR.out
        generalize bs ++ nbN l.length ++ (l.take k).flatMap jbN = bz at *
        exact jobX B g bz s sx sy sc sd AR hW HT' HS.out (sq.fr (fun q hqq => RB.out.cell (Nat.lt_of_lt_of_le (HS.out _ hqq) (by have := HB; have := HQ.out.b.size; omega)))) SO
      clear hlt se sk sb hk SO sq SS
      go_upto_region 4 with fail
      rw [← eR]
      clear eR za e0 e1 e2 e3 e4 e5 e6
      have i0 : AR.cell? ⟨wr.heap.size, 0, none⟩ = some (.string s.nm) := by simp [World.cell?, RX.out]
      have i1 : AR.cell? ⟨wr.heap.size, 1, none⟩ = some (.int .i64 s.iv) := by simp [World.cell?, RX.out]
      have i2 : AR.cell? ⟨wr.heap.size, 2, none⟩ = some (.int .i64 s.sg) := by simp [World.cell?, RX.out]
      have i3 : AR.cell? ⟨wr.heap.size, 3, none⟩ = some (.int .i64 s.pr) := by simp [World.cell?, RX.out]
      have i4 : AR.cell? ⟨wr.heap.size, 4, none⟩ = some (.slice sx s.cs.length sc) := by simp [World.cell?, RX.out]
      have i5 : AR.cell? ⟨wr.heap.size, 5, none⟩ = some (.slice sy s.bs.length sd) := by simp [World.cell?, RX.out]
      have i6 : AR.cell? ⟨wr.heap.size, 6, none⟩ = some (.int .i64 s.bd) := by simp [World.cell?, RX.out]
      go_wp2_with fail
      refine (R0.out).mono ?_
      first | (rintro e w2 ⟨he, h1, hb1⟩; have he' := he) | (rintro e w2 he h1 hb1)
      subst he
      have H2 : Hid (Wb B g (bs ++ nbN l.length ++ (l.take (k + 1)).flatMap jbN) w2) := h1
      have Q2 : Hid (Bq B w w2) := QR.out.trans hb1
      clear h1 hb1 R0 i0 i1 i2 i3 i4 i5 i6
      go_wp2
      try rw [ek]
      exact ⟨⟨k + 1, Nat.succ_le_of_lt LT.out, rfl, H2.out, Q2.out⟩, msrE LT.out⟩
    · have kl : ¬ (k : Int) < l.length := by omega
      have ek : k = l.length := by omega
      subst ek
      rw [List.take_length, List.append_assoc] at HW
      clear hlt hk
      go_wp2
      go_end0
      exact ⟨rfl, HW.out, HQ.out⟩
/-- An image's bytes, but for the sum. -/
def imbN (m : ImR) : List Nat := sbN ⟨#[114, 108, 121, 1]⟩ ++ tbN m.nm ++ lsN cbN m.cs ++ lsN flbN m.fs ++ lsN jbN m.js
theorem lsC_le {l : List CeR} (h : ∀ c ∈ l, CeOk c) : (lsN cbN l).length ≤ 8 + l.length * 8388661 := lsN_le _ _ _ (fun e he => by rw [cbN_len]; have q := h e he; have q1 : e.is.size ≤ 4194304 := q.2.2.2.2.2.2.1; have q2 : e.ad.size ≤ 4194304 := q.2.2.2.2.2.2.2.2; omega)
theorem lsF_le {l : List FlR} (h : ∀ c ∈ l, FlS c) : (lsN flbN l).length ≤ 8 + l.length * 68800000000 := lsN_le _ _ _ (fun e he => flbN_len (h e he))
theorem lsJ_le {l : List JbR} (h : ∀ c ∈ l, JbOk c) : (lsN jbN l).length ≤ 8 + l.length * 22000000 := lsN_le _ _ _ (fun e he => jbN_len (h e he))
/-- Is an image small enough? -/
def ImS (m : ImR) : Prop := shT m.nm ∧ (∀ c ∈ m.cs, CeOk c) ∧ (∀ f ∈ m.fs, FlS f) ∧ (∀ j ∈ m.js, JbOk j) ∧ m.cs.length ≤ 4096 ∧ m.fs.length ≤ 64 ∧ m.js.length ≤ 16
set_option maxRecDepth 20000 in
set_option maxHeartbeats 4000000 in
theorem imageX (B g : Nat) (m : ImR) (x1 x2 x3 : Option Addr) (p1 p2 p3 : Nat) (w : World) {S : Nat → Prop} (h : Wb B g [] w) (hS : ∀ b, S b → b < B) (hq : ImQ S w m x1 x2 x3) (ho : ImS m) :
    Calls Tryz.prog 10 #[.pointer (some ⟨g, 0, none⟩), .agg #[.string m.nm, .slice x1 m.cs.length p1, .slice x2 m.fs.length p2, .slice x3 m.js.length p3]] w fun e w' => e = .returned (.tuple #[]) ∧ Wb B g (imbN m) w' ∧ Bq B w w' := by
  obtain ⟨i0, hi, hz0, hz1, hz2⟩ := u8_info
  have HB := h.lt
  obtain ⟨o1, o2, o3, o4, o5, o6, o7⟩ := ho
  have z1 := lsC_le o2
  have z2 := lsF_le o3
  have z3 := lsJ_le o4
  have z0 : m.nm.size ≤ 4194304 := o1
  have zm : (sbN ⟨#[114, 108, 121, 1]⟩).length = 4 := by rw [sbN_len]; rfl
  have R3 : Hid (∀ W, Bq B w W → Wb B g (sbN ⟨#[114, 108, 121, 1]⟩) W → Calls Tryz.prog 25 #[.pointer (some ⟨g, 0, none⟩), .string m.nm] W fun e w' => e = .returned (.tuple #[]) ∧ Wb B g (sbN ⟨#[114, 108, 121, 1]⟩ ++ tbN m.nm) w' ∧ Bq B W w') := fun W hQ hW => textX B g (sbN ⟨#[114, 108, 121, 1]⟩) m.nm W hW (by (repeat first | rw [List.length_append] | rw [zm] | rw [tbN_len]); omega) z0
  have R4 : Hid (∀ W, Bq B w W → Wb B g (sbN ⟨#[114, 108, 121, 1]⟩ ++ tbN m.nm) W → Calls Tryz.prog 26 #[.pointer (some ⟨g, 0, none⟩), .slice x1 m.cs.length p1, .func (.func 27) #[.pointer (some ⟨g, 0, none⟩)] #[]] W fun e w' => e = .returned (.tuple #[]) ∧ Wb B g (sbN ⟨#[114, 108, 121, 1]⟩ ++ tbN m.nm ++ lsN cbN m.cs) w' ∧ Bq B W w') := fun W hQ hW => wlCell B g (sbN ⟨#[114, 108, 121, 1]⟩ ++ tbN m.nm) m.cs x1 p1 W hW hS (hq.1.fr (fun q hqq => hQ.b.cell (hS _ hqq))) o2 (by (repeat first | rw [List.length_append] | rw [zm] | rw [tbN_len]); omega) (by omega)
  have R5 : Hid (∀ W, Bq B w W → Wb B g (sbN ⟨#[114, 108, 121, 1]⟩ ++ tbN m.nm ++ lsN cbN m.cs) W → Calls Tryz.prog 28 #[.pointer (some ⟨g, 0, none⟩), .slice x2 m.fs.length p2, .func (.func 29) #[.pointer (some ⟨g, 0, none⟩)] #[]] W fun e w' => e = .returned (.tuple #[]) ∧ Wb B g (sbN ⟨#[114, 108, 121, 1]⟩ ++ tbN m.nm ++ lsN cbN m.cs ++ lsN flbN m.fs) w' ∧ Bq B W w') := fun W hQ hW => wlFlat B g (sbN ⟨#[114, 108, 121, 1]⟩ ++ tbN m.nm ++ lsN cbN m.cs) m.fs x2 p2 W hW hS (hq.2.1.frK keptF (fun q hqq => hQ.b.cell (hS _ hqq))) o3 (by (repeat first | rw [List.length_append] | rw [zm] | rw [tbN_len]); omega) (by omega)
  have R6 : Hid (∀ W, Bq B w W → Wb B g (sbN ⟨#[114, 108, 121, 1]⟩ ++ tbN m.nm ++ lsN cbN m.cs ++ lsN flbN m.fs) W → Calls Tryz.prog 30 #[.pointer (some ⟨g, 0, none⟩), .slice x3 m.js.length p3, .func (.func 31) #[.pointer (some ⟨g, 0, none⟩)] #[]] W fun e w' => e = .returned (.tuple #[]) ∧ Wb B g (sbN ⟨#[114, 108, 121, 1]⟩ ++ tbN m.nm ++ lsN cbN m.cs ++ lsN flbN m.fs ++ lsN jbN m.js) w' ∧ Bq B W w') := fun W hQ hW => wlJob B g (sbN ⟨#[114, 108, 121, 1]⟩ ++ tbN m.nm ++ lsN cbN m.cs ++ lsN flbN m.fs) m.js x3 p3 W hW hS (hq.2.2.frK keptJ (fun q hqq => hQ.b.cell (hS _ hqq))) o4 (by (repeat first | rw [List.length_append] | rw [zm] | rw [tbN_len]); omega) (by omega)
  clear z1 z2 z3 o1 o2 o3 o4 o5 o6 o7 hS hq z0 zm
  obtain ⟨AW, eW⟩ : ∃ AW, AW = w.alloc (.cells #[.string m.nm, .slice x1 m.cs.length p1, .slice x2 m.fs.length p2, .slice x3 m.js.length p3] 26 (0, 0)) := ⟨_, rfl⟩
  have AB : Hid (Below w.heap.size w AW) := by rw [eW]; exact (Below.refl _ _).alloc (Nat.le_refl _) _
  have AX : Hid (AW.heap[w.heap.size]? = some (.cells #[.string m.nm, .slice x1 m.cs.length p1, .slice x2 m.fs.length p2, .slice x3 m.js.length p3] 26 (0, 0))) := by rw [eW]; exact heap_alloc_last _ _
  have QA : Hid (Bq B w AW) := Bq.up AB.out (by omega)
  have h' : Wq B g [] AW := Wq.below h AB.out
  clear h
  obtain ⟨x, n, c, hg, hown⟩ := h'.shape
  have c0 : AW.cell? ⟨g, 0, none⟩ = some (.slice x n c) := by simp [World.cell?, hg]
  have HG : Hid (AW.heap[g]? = some (.cells #[.slice x n c] 40 (0, 0))) := hg
  have HO : Hid (AW.ownsRow B 5 1 (.slice x n c) ([] : List Value).length []) := hown
  have NE : Hid ((Value.slice x n c).ownBlock ≠ some g) := Lib.ownBlock_ne hown hg (by decide)
  have AS : AW.heap.size = w.heap.size + 1 := by rw [eW]; simp
  clear h' hg hown
  go_enter Tryz.func10, Tryz.ntmps10
  go_upto_region 1 with fail
  rw [← eW]
  clear eW
  go_wp2_with (at_builtin; refine Lib.wpList_append_own_string _ rfl _ _ 27 9 rfl B 5 i0 Tryz.underlying27 Tryz.underlying9 hi hz0 hz1 hz2 _ _ _ rfl HO.out ⟨#[114, 108, 121, 1]⟩ rfl ?c3 ?c4 ?c5 ?_)
  case c3 => decide
  case c4 => decide
  case c5 => omega
  intro v' w2 hown' hgrow hnil
  have O2 : Hid (w2.ownsRow B 5 1 v' (Lib.strCells ⟨#[114, 108, 121, 1]⟩).length (Lib.strCells ⟨#[114, 108, 121, 1]⟩)) := hown'
  have HB2 : g < AW.heap.size := blk_in HG.out
  have G2 : Hid (w2.heap[g]? = some (.cells #[.slice x n c] 40 (0, 0))) := by
    rw [hgrow.block g HB2 (fun e => NE.out e.symm)]
    exact HG.out
  have Q2 : Hid (Bq B AW w2) := (Bq.refl B AW).grown HO.out hgrow (by omega)
  have d0 : w2.cell? ⟨g, 0, none⟩ = some (.slice x n c) := by simp [World.cell?, G2.out]
  have d1 : w2.frozen? ⟨g, 0, none⟩ = false := by simp [World.frozen?, G2.out]
  obtain ⟨y, k, q, rfl⟩ : ∃ y k q, v' = .slice y k q := by
    rcases hown'.2 with ⟨hv, _⟩ | ⟨_, cap, cur, hv, _⟩
    · exact ⟨_, _, _, hv⟩
    · exact ⟨_, _, _, hv⟩
  clear hown' hgrow hnil c0
  obtain ⟨w3, e3⟩ : ∃ V, V = w2.setCell ⟨g, 0, none⟩ (.slice y k q) := ⟨_, rfl⟩
  have H3 : Hid (Wb B g (sbN ⟨#[114, 108, 121, 1]⟩) w3) := by unfold Wb; rw [e3, sbN_str]; exact Wq.put HB.1 G2.out O2.out (U8s.str _)
  have Q3 : Hid (Bq B AW w3) := by rw [e3]; exact Q2.out.set G2.out HB.1 _ _
  go_upto_region 2 with fail
  rw [← e3]
  clear e3 d0 d1 G2 O2 Q2
  have X := Q3.out.k _ _ _ _ AX.out (by decide) (by decide)
  have i0 : w3.cell? ⟨w.heap.size, 0, none⟩ = some (.string m.nm) := by simp [World.cell?, X]
  clear X
  go_wp2_with (go_at_call 25; refine (R3.out _ (QA.out.trans Q3.out) H3.out).mono ?_)
  first | (rintro e w4 ⟨he, h1, hb1⟩; have he' := he) | (rintro e w4 he h1 hb1)
  subst he
  have H4 : Hid (Wb B g (sbN ⟨#[114, 108, 121, 1]⟩ ++ tbN m.nm) w4) := h1
  have Q4 : Hid (Bq B AW w4) := Q3.out.trans hb1
  clear h1 hb1 i0
  have X := Q4.out.k _ _ _ _ AX.out (by decide) (by decide)
  have i1 : w4.cell? ⟨w.heap.size, 1, none⟩ = some (.slice x1 m.cs.length p1) := by simp [World.cell?, X]
  clear X
  go_wp2_with (go_at_call 26; refine (R4.out _ (QA.out.trans Q4.out) H4.out).mono ?_)
  first | (rintro e w5 ⟨he, h1, hb1⟩; have he' := he) | (rintro e w5 he h1 hb1)
  subst he
  have H5 : Hid (Wb B g (sbN ⟨#[114, 108, 121, 1]⟩ ++ tbN m.nm ++ lsN cbN m.cs) w5) := h1
  have Q5 : Hid (Bq B AW w5) := Q4.out.trans hb1
  clear h1 hb1 i1
  have X := Q5.out.k _ _ _ _ AX.out (by decide) (by decide)
  have i2 : w5.cell? ⟨w.heap.size, 2, none⟩ = some (.slice x2 m.fs.length p2) := by simp [World.cell?, X]
  clear X
  go_wp2_with (go_at_call 28; refine (R5.out _ (QA.out.trans Q5.out) H5.out).mono ?_)
  first | (rintro e w6 ⟨he, h1, hb1⟩; have he' := he) | (rintro e w6 he h1 hb1)
  subst he
  have H6 : Hid (Wb B g (sbN ⟨#[114, 108, 121, 1]⟩ ++ tbN m.nm ++ lsN cbN m.cs ++ lsN flbN m.fs) w6) := h1
  have Q6 : Hid (Bq B AW w6) := Q5.out.trans hb1
  clear h1 hb1 i2
  have X := Q6.out.k _ _ _ _ AX.out (by decide) (by decide)
  have i3 : w6.cell? ⟨w.heap.size, 3, none⟩ = some (.slice x3 m.js.length p3) := by simp [World.cell?, X]
  clear X
  go_wp2_with (go_at_call 30; refine (R6.out _ (QA.out.trans Q6.out) H6.out).mono ?_)
  first | (rintro e w7 ⟨he, h1, hb1⟩; have he' := he) | (rintro e w7 he h1 hb1)
  subst he
  have H7 : Hid (Wb B g (sbN ⟨#[114, 108, 121, 1]⟩ ++ tbN m.nm ++ lsN cbN m.cs ++ lsN flbN m.fs ++ lsN jbN m.js) w7) := h1
  have Q7 : Hid (Bq B AW w7) := Q6.out.trans hb1
  clear h1 hb1 i3
  go_wp2
  go_end0
  exact ⟨rfl, H7.out, QA.out.trans Q7.out⟩
end Go.Proofs.YtkickdmomompjaaGreat
