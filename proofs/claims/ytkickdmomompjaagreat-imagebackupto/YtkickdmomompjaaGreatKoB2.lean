/- image: codes, tasks, lists of them written exactly; no statement of the seat is proved here. -/
import Derived.Test.YtkickdmomompjaaGreatAwAK
import Derived.Test.YtkickdmomompjaaGreatKoB1
import Derived.Test.YtkickdmomompjaaGreatKoA1
import Derived.Test.YtkickdmomompjaaGreatCkGK
namespace Go.Proofs.YtkickdmomompjaaGreat
set_option linter.unusedVariables false
open Go.RowKit
theorem wrap_u8 (n : Int) : 0 ≤ IntKind.u8.wrap n ∧ IntKind.u8.wrap n < 256 := by
  show 0 ≤ n % 256 ∧ n % 256 < 256
  omega
theorem bits_u8 (op : BinOp) (x y : Int) : 0 ≤ bits op .u8 x y ∧ bits op .u8 x y < 256 := wrap_u8 _
set_option maxRecDepth 20000 in
set_option maxHeartbeats 4000000 in
theorem sumOf_of (x : Option Addr) (n c : Nat) (w : World) (hn : n ≤ 1000) (hc : ∀ k, k < n → ∃ a b, x = some a ∧ a.block < w.heap.size ∧ w.cell? (a.add k) = some (.int .u8 b)) :
    Calls Tryz.prog 11 #[.slice x n c] w fun e w' => (∃ b0 b1 b2 b3, e = .returned (.agg #[.int .u8 b0, .int .u8 b1, .int .u8 b2, .int .u8 b3])) ∧ Below w.heap.size w w' := by
  have HC : Hid (∀ k, k < n → ∃ a b, x = some a ∧ a.block < w.heap.size ∧ w.cell? (a.add k) = some (.int .u8 b)) := hc
  have HN : Hid (n ≤ 1000) := hn
  clear hc hn
  obtain ⟨AW, eW⟩ : ∃ AW, AW = w.alloc (.cells #[.int .u8 0, .int .u8 0, .int .u8 0, .int .u8 0] 42 (0, 0)) := ⟨_, rfl⟩
  have AB : Hid (Below w.heap.size w AW) := by rw [eW]; exact (Below.refl _ _).alloc (Nat.le_refl _) _
  have AX : Hid (AW.heap[w.heap.size]? = some (.cells #[.int .u8 0, .int .u8 0, .int .u8 0, .int .u8 0] 42 (0, 0))) := by rw [eW]; exact heap_alloc_last _ _
  go_enter Tryz.func11, Tryz.ntmps11
  go_upto_region 1 with fail
  rw [← eW]
  clear eW
  go_wp2_with (go_at_call 32; refine (byteChanges_of _).mono ?_)
  first | (rintro e w1 ⟨⟨cs, he, hu⟩, hb1⟩) | (rintro e w1 cs he hu hb1) | (rintro e w1 ⟨cs, he, hu⟩ hb1)
  subst he
  have U : Hid (U256 cs) := hu
  have B1 : Hid (Below AW.heap.size AW w1) := hb1
  clear hu hb1
  have Z1 : Hid ((w1.alloc (.cells Tryz.zeroCells77 77)).heap[w1.heap.size]? = some (.cells Tryz.zeroCells77 77 (0, 0))) := heap_alloc_last _ _
  go_wp2_with (refine wpList_store_row rfl 77 _ _ rfl w1.heap.size cs rfl rfl _ _ Z1.out (by rw [U.out.1]; exact u256_info) (by rw [U.out.1]; exact u256_zero.1) (u256_one U.out) ?_)
  obtain ⟨AR, eR⟩ : ∃ AR, AR = (w1.alloc (.cells Tryz.zeroCells77 77)).setRow w1.heap.size cs := ⟨_, rfl⟩
  have T1 : Hid (Tb w1.heap.size AR) := by rw [eR]; exact ⟨cs, setRow_heap _ _ _ _ _ _ Z1.out, U.out⟩
  have AR1 : Hid (Below w.heap.size w AR) := by rw [eR]; exact (AB.out.trans ((B1.out.trans (((Below.refl _ _).alloc (Nat.le_refl _) _).mono B1.out.size)).mono AB.out.size)).trans ⟨rfl, rfl, rfl, by simp [World.setRow], fun k hk => setRow_other _ _ _ _ (by have := AB.out.size; have := B1.out.size; omega)⟩
  have AX1 : Hid (AR.heap[w.heap.size]? = some (.cells #[.int .u8 0, .int .u8 0, .int .u8 0, .int .u8 0] 42 (0, 0))) := by
    have h1 : w.heap.size < AW.heap.size := blk_in AX.out
    have h2 := B1.out.size
    rw [eR, setRow_other _ _ _ _ (by omega), Below.heap_alloc _ _ _ (by omega)]
    exact (B1.out.block _ h1).trans AX.out
  try rw [← eR]
  clear eR
  go_loopw [4, 10] (fun s i wr => ∃ (k : Nat) (v : Int), k ≤ n ∧ s = .int .u32 v ∧ i = .int .i64 k ∧ wr = AR) (fun _ i _ => n - (intOf i).toNat)
  case atStart => exact ⟨0, _, Nat.zero_le _, rfl, rfl, rfl⟩
  case round =>
    obtain ⟨k, v, hk, rfl, rfl, hw⟩ := hrel
    rw [hw]
    clear hw wr
    by_cases hlt : k < n
    · obtain ⟨a, b, rfl, hab, hcell⟩ := HC.out k hlt
      have f0 : AR.cell? (a.add k) = some (.int .u8 b) := (AR1.out.cell (by rw [add_block]; exact hab)).trans hcell
      have kl : (k : Int) < n := by omega
      have LT : Hid (k < n) := hlt
      have ek : wrap64 ((k : Int) + 1) = (k : Int) + 1 := by have := HN.out; unfold wrap64; omega
      obtain ⟨x0, x1⟩ := bits_u8 .xor (v % 256) b
      obtain ⟨m, fm⟩ := T1.out.cell (bits .xor .u8 (v % 256) b).toNat (by omega)
      clear hlt hab hcell hk
      go_wp2
      try rw [ek]
      exact ⟨⟨k + 1, _, Nat.succ_le_of_lt LT.out, rfl, rfl, trivial⟩, msr LT.out⟩
    · have kl : ¬ (k : Int) < n := by omega
      clear hlt hk
      go_wp2_with (refine wpList_store_row rfl 42 _ _ rfl w.heap.size _ rfl rfl _ _ AX1.out (by kernel_rfl) rfl (by kernel_rfl) ?_)
      refine bodyPost_ret (v := .agg _) (results_cell_row Tryz.results11 _ _ w.heap.size _ _ (0, 0) _ (by first | rfl | simp [Act.put]) (setRow_heap _ _ _ _ _ _ AX1.out) Tryz.underlying42 rfl (by kernel_rfl)) rfl ⟨⟨_, _, _, _, rfl⟩, ?_⟩
      exact row_bel AR1.out (Nat.le_refl _) _
end Go.Proofs.YtkickdmomompjaaGreat
namespace Go.Proofs.YtkickdmomompjaaGreat
set_option linter.unusedVariables false
open Go.RowKit
def lsN {α : Type} (f : α → List Nat) (l : List α) : List Nat := nbN l.length ++ l.flatMap f
theorem flat_le {α : Type} (f : α → List Nat) (c : Nat) (l : List α) (h : ∀ e ∈ l, (f e).length ≤ c) : (l.flatMap f).length ≤ l.length * c := by
  induction l with
  | nil => simp
  | cons a l ih =>
    rw [List.flatMap_cons, List.length_append, List.length_cons, Nat.add_mul, Nat.one_mul]
    have h1 := h a (by simp)
    have h2 := ih (fun e he => h e (by simp [he]))
    omega
set_option maxRecDepth 20000 in
set_option maxHeartbeats 4000000 in
theorem wlInt (B g : Nat) (bs : List Nat) (l : List Int) (x : Option Addr) (c : Nat) (w : World) {S : Nat → Prop} (h : Wb B g bs w) (hS : ∀ b, S b → b < B) (ha : RwF 1 (Is inC) S w x l) (ho : ∀ e ∈ l, True) (hl : bs.length + 8 + l.length * 8 ≤ 6597069766656) (hn : l.length ≤ 1048576) :
    Calls Tryz.prog 56 #[.pointer (some ⟨g, 0, none⟩), .slice x l.length c, .func (.func 47) #[.pointer (some ⟨g, 0, none⟩)] #[]] w fun e w' => e = .returned (.tuple #[]) ∧ Wb B g (bs ++ lsN nbN l) w' ∧ Bq B w w' := by
  have HB := h.lt
  have H : Hid (Wb B g bs w) := h
  have HA : Hid (∀ V, Bq B w V → RwF 1 (Is inC) S V x l) := fun V hV => ha.fr (fun q hq => hV.b.cell (hS _ hq))
  have HN : Hid (l.length ≤ 1048576) := hn
  have HS : Hid (∀ b, S b → b < B) := hS
  have OK : Hid (∀ e ∈ l, True) := ho
  have HC : ∀ k : Nat, ((l.take k).flatMap nbN).length ≤ l.length * 8 := fun k => Nat.le_trans (flat_le _ 8 (l.take k) (fun e he => by rw [nbN_len]; omega)) (Nat.mul_le_mul_right _ (List.length_take_le' k l))
  have HT : Hid (∀ k, (bs ++ nbN l.length ++ (l.take k).flatMap nbN).length ≤ 6597069766656) := fun k => by rw [List.length_append, List.length_append, nbN_len]; have := HC k; omega
  have N0 : Hid (∀ W, Wb B g bs W → Calls Tryz.prog 47 #[.pointer (some ⟨g, 0, none⟩), .int .i64 l.length] W fun e w' => e = .returned (.tuple #[]) ∧ Wb B g (bs ++ nbN l.length) w' ∧ Bq B W w') := fun W hW => numberX B g bs _ W hW (by omega)
  clear h hS ha ho hl hn HC
  have E0 : ∀ (args : Array Value) (W : World), (callFunc 47 args).run Tryz.prog W = .ok (.enter 47 args) W := fun _ _ => by kernel_rfl
  go_enter Tryz.func56, Tryz.ntmps56
  go_wp2_with (go_at_call 47; refine (N0.out _ H.out).mono ?_)
  first | (rintro e w1 ⟨he, h1, hb1⟩; have he' := he) | (rintro e w1 he h1 hb1)
  subst he
  have H1 : Hid (Wb B g (bs ++ nbN l.length) w1) := h1
  have B1 : Hid (Bq B w w1) := hb1
  clear h1 hb1 N0 H
  go_upto_region 2 with fail
  go_loopw [14] (fun i wr => ∃ k : Nat, k ≤ l.length ∧ i = .int .i64 k ∧ Wb B g (bs ++ nbN l.length ++ (l.take k).flatMap nbN) wr ∧ Bq B w wr) (fun i _ => l.length - (intOf i).toNat)
  case atStart => exact ⟨0, Nat.zero_le _, rfl, by rw [List.take_zero, List.flatMap_nil, List.append_nil]; exact H1.out, B1.out⟩
  case round =>
    obtain ⟨k, hk, rfl, hw, hb⟩ := hrel
    have HW : Hid (Wb B g (bs ++ nbN l.length ++ (l.take k).flatMap nbN) wr) := hw
    have HQ : Hid (Bq B w wr) := hb
    clear hw hb H1 B1
    by_cases hlt : k < l.length
    · obtain ⟨a, rfl⟩ := (HA.out wr HQ.out).some (by omega)
      obtain ⟨s, sv, se, sb, rfl, sk⟩ := (HA.out wr HQ.out).el k hlt
      have e0 := sk.c0
      rw [Nat.mul_one] at e0
      have SE : Hid (l[k]? = some s) := se
      have LT : Hid (k < l.length) := hlt
      have kl : (k : Int) < l.length := by omega
      have ek : wrap64 ((k : Int) + 1) = (k : Int) + 1 := by have := HN.out; unfold wrap64; omega
      have TK : Hid (bs ++ nbN l.length ++ (l.take (k + 1)).flatMap nbN = bs ++ nbN l.length ++ (l.take k).flatMap nbN ++ nbN s) := by show _ = _; rw [List.take_add_one, se, List.flatMap_append]; simp [List.append_assoc]
      have SO := OK.out s (List.mem_of_getElem? se)
      have R0 : Hid (Calls Tryz.prog 47 #[.pointer (some ⟨g, 0, none⟩), .int .i64 s] wr fun e w' => e = .returned (.tuple #[]) ∧ Wb B g (bs ++ nbN l.length ++ (l.take (k + 1)).flatMap nbN) w' ∧ Bq B wr w') := by
        rw [TK.out]
        have HT' := HT.out k
        have hW := HW.out
        generalize bs ++ nbN l.length ++ (l.take k).flatMap nbN = bz at *
        have V := wr
        exact numberX B g bz s wr hW (by omega)
      clear hlt se sk sb hk SO
      go_wp2_with fail
      refine (R0.out).mono ?_
      first | (rintro e w2 ⟨he, h1, hb1⟩; have he' := he) | (rintro e w2 he h1 hb1)
      subst he
      have H2 : Hid (Wb B g (bs ++ nbN l.length ++ (l.take (k + 1)).flatMap nbN) w2) := h1
      have Q2 : Hid (Bq B w w2) := HQ.out.trans hb1
      clear h1 hb1 R0 e0
      go_wp2
      try rw [ek]
      exact ⟨⟨k + 1, Nat.succ_le_of_lt LT.out, rfl, H2.out, Q2.out⟩, msrE LT.out⟩
    · have kl : ¬ (k : Int) < l.length := by omega
      have ek : k = l.length := by omega
      subst ek
      rw [List.take_length, List.append_assoc] at HW
      clear hlt hk
      go_wp2
      go_end0
      exact ⟨rfl, HW.out, HQ.out⟩
set_option maxRecDepth 20000 in
set_option maxHeartbeats 4000000 in
theorem wlLoop (B g : Nat) (bs : List Nat) (l : List LpR) (x : Option Addr) (c : Nat) (w : World) {S : Nat → Prop} (h : Wb B g bs w) (hS : ∀ b, S b → b < B) (ha : RwF 3 (Is lpC) S w x l) (ho : ∀ e ∈ l, LpOk e) (hl : bs.length + 8 + l.length * 24 ≤ 6597069766656) (hn : l.length ≤ 1048576) :
    Calls Tryz.prog 54 #[.pointer (some ⟨g, 0, none⟩), .slice x l.length c, .func (.func 55) #[.pointer (some ⟨g, 0, none⟩)] #[]] w fun e w' => e = .returned (.tuple #[]) ∧ Wb B g (bs ++ lsN lbN l) w' ∧ Bq B w w' := by
  have HB := h.lt
  have H : Hid (Wb B g bs w) := h
  have HA : Hid (∀ V, Bq B w V → RwF 3 (Is lpC) S V x l) := fun V hV => ha.fr (fun q hq => hV.b.cell (hS _ hq))
  have HN : Hid (l.length ≤ 1048576) := hn
  have HS : Hid (∀ b, S b → b < B) := hS
  have OK : Hid (∀ e ∈ l, LpOk e) := ho
  have HC : ∀ k : Nat, ((l.take k).flatMap lbN).length ≤ l.length * 24 := fun k => Nat.le_trans (flat_le _ 24 (l.take k) (fun e he => by rw [lbN_len]; omega)) (Nat.mul_le_mul_right _ (List.length_take_le' k l))
  have HT : Hid (∀ k, (bs ++ nbN l.length ++ (l.take k).flatMap lbN).length ≤ 6597069766656) := fun k => by rw [List.length_append, List.length_append, nbN_len]; have := HC k; omega
  have N0 : Hid (∀ W, Wb B g bs W → Calls Tryz.prog 47 #[.pointer (some ⟨g, 0, none⟩), .int .i64 l.length] W fun e w' => e = .returned (.tuple #[]) ∧ Wb B g (bs ++ nbN l.length) w' ∧ Bq B W w') := fun W hW => numberX B g bs _ W hW (by omega)
  clear h hS ha ho hl hn HC
  have E0 : ∀ (args : Array Value) (W : World), (callFunc 55 args).run Tryz.prog W = .ok (.enter 55 args) W := fun _ _ => by kernel_rfl
  go_enter Tryz.func54, Tryz.ntmps54
  go_wp2_with (go_at_call 47; refine (N0.out _ H.out).mono ?_)
  first | (rintro e w1 ⟨he, h1, hb1⟩; have he' := he) | (rintro e w1 he h1 hb1)
  subst he
  have H1 : Hid (Wb B g (bs ++ nbN l.length) w1) := h1
  have B1 : Hid (Bq B w w1) := hb1
  clear h1 hb1 N0 H
  go_upto_region 2 with fail
  go_loopw [14] (fun i wr => ∃ k : Nat, k ≤ l.length ∧ i = .int .i64 k ∧ Wb B g (bs ++ nbN l.length ++ (l.take k).flatMap lbN) wr ∧ Bq B w wr) (fun i _ => l.length - (intOf i).toNat)
  case atStart => exact ⟨0, Nat.zero_le _, rfl, by rw [List.take_zero, List.flatMap_nil, List.append_nil]; exact H1.out, B1.out⟩
  case round =>
    obtain ⟨k, hk, rfl, hw, hb⟩ := hrel
    have HW : Hid (Wb B g (bs ++ nbN l.length ++ (l.take k).flatMap lbN) wr) := hw
    have HQ : Hid (Bq B w wr) := hb
    clear hw hb H1 B1
    by_cases hlt : k < l.length
    · obtain ⟨a, rfl⟩ := (HA.out wr HQ.out).some (by omega)
      obtain ⟨s, sv, se, sb, rfl, sk⟩ := (HA.out wr HQ.out).el k hlt
      have e0 := sk.c0
      have e1 := sk.cp 0 _ rfl
      have e2 := sk.cp 1 _ rfl
      have SE : Hid (l[k]? = some s) := se
      have LT : Hid (k < l.length) := hlt
      have kl : (k : Int) < l.length := by omega
      have ek : wrap64 ((k : Int) + 1) = (k : Int) + 1 := by have := HN.out; unfold wrap64; omega
      have TK : Hid (bs ++ nbN l.length ++ (l.take (k + 1)).flatMap lbN = bs ++ nbN l.length ++ (l.take k).flatMap lbN ++ lbN s) := by show _ = _; rw [List.take_add_one, se, List.flatMap_append]; simp [List.append_assoc]
      have SO := OK.out s (List.mem_of_getElem? se)
      have za := block_lt_of_cell e0
      obtain ⟨AR, eR⟩ : ∃ AR, AR = wr.alloc (.cells #[.int .i64 s.hd, .int .i64 s.en, .int .i64 s.tm] 103 (0, 0)) := ⟨_, rfl⟩
      have RB : Hid (Below wr.heap.size wr AR) := by rw [eR]; exact (Below.refl _ _).alloc (Nat.le_refl _) _
      have RX : Hid (AR.heap[wr.heap.size]? = some (.cells #[.int .i64 s.hd, .int .i64 s.en, .int .i64 s.tm] 103 (0, 0))) := by rw [eR]; exact heap_alloc_last _ _
      have WR : Hid (Wb B g (bs ++ nbN l.length ++ (l.take k).flatMap lbN) AR) := Wq.below HW.out RB.out
      have QR : Hid (Bq B w AR) := HQ.out.trans (Bq.up RB.out (by have := HQ.out.b.size; omega))
      have R0 : Hid (Calls Tryz.prog 55 #[.pointer (some ⟨g, 0, none⟩), .agg #[.int .i64 s.hd, .int .i64 s.en, .int .i64 s.tm]] AR fun e w' => e = .returned (.tuple #[]) ∧ Wb B g (bs ++ nbN l.length ++ (l.take (k + 1)).flatMap lbN) w' ∧ Bq B AR w') := by
        rw [TK.out]
        have HT' := HT.out k
        have hW := WR.out
        generalize bs ++ nbN l.length ++ (l.take k).flatMap lbN = bz at *
        exact loopX B g bz s AR hW HT'
      clear hlt se sk sb hk SO
      go_upto_region 4 with fail
      rw [← eR]
      clear eR za e0 e1 e2
      have i0 : AR.cell? ⟨wr.heap.size, 0, none⟩ = some (.int .i64 s.hd) := by simp [World.cell?, RX.out]
      have i1 : AR.cell? ⟨wr.heap.size, 1, none⟩ = some (.int .i64 s.en) := by simp [World.cell?, RX.out]
      have i2 : AR.cell? ⟨wr.heap.size, 2, none⟩ = some (.int .i64 s.tm) := by simp [World.cell?, RX.out]
      go_wp2_with fail
      refine (R0.out).mono ?_
      first | (rintro e w2 ⟨he, h1, hb1⟩; have he' := he) | (rintro e w2 he h1 hb1)
      subst he
      have H2 : Hid (Wb B g (bs ++ nbN l.length ++ (l.take (k + 1)).flatMap lbN) w2) := h1
      have Q2 : Hid (Bq B w w2) := QR.out.trans hb1
      clear h1 hb1 R0 i0 i1 i2
      go_wp2
      try rw [ek]
      exact ⟨⟨k + 1, Nat.succ_le_of_lt LT.out, rfl, H2.out, Q2.out⟩, msrE LT.out⟩
    · have kl : ¬ (k : Int) < l.length := by omega
      have ek : k = l.length := by omega
      subst ek
      rw [List.take_length, List.append_assoc] at HW
      clear hlt hk
      go_wp2
      go_end0
      exact ⟨rfl, HW.out, HQ.out⟩
set_option maxRecDepth 20000 in
set_option maxHeartbeats 4000000 in
theorem wlOp (B g : Nat) (bs : List Nat) (l : List OpR) (x : Option Addr) (c : Nat) (w : World) {S : Nat → Prop} (h : Wb B g bs w) (hS : ∀ b, S b → b < B) (ha : RwF 10 (Is opC) S w x l) (ho : ∀ e ∈ l, OpOk e) (hl : bs.length + 8 + l.length * 4194377 ≤ 6597069766656) (hn : l.length ≤ 1048576) :
    Calls Tryz.prog 52 #[.pointer (some ⟨g, 0, none⟩), .slice x l.length c, .func (.func 53) #[.pointer (some ⟨g, 0, none⟩)] #[]] w fun e w' => e = .returned (.tuple #[]) ∧ Wb B g (bs ++ lsN obN l) w' ∧ Bq B w w' := by
  have HB := h.lt
  have H : Hid (Wb B g bs w) := h
  have HA : Hid (∀ V, Bq B w V → RwF 10 (Is opC) S V x l) := fun V hV => ha.fr (fun q hq => hV.b.cell (hS _ hq))
  have HN : Hid (l.length ≤ 1048576) := hn
  have HS : Hid (∀ b, S b → b < B) := hS
  have OK : Hid (∀ e ∈ l, OpOk e) := ho
  have HC : ∀ k : Nat, ((l.take k).flatMap obN).length ≤ l.length * 4194377 := fun k => Nat.le_trans (flat_le _ 4194377 (l.take k) (fun e he => by rw [obN_len]; have q1 : e.vs.size ≤ 4194304 := (ho e (List.mem_of_mem_take he)).2.2.2.2.2.2.2.2.2; omega)) (Nat.mul_le_mul_right _ (List.length_take_le' k l))
  have HT : Hid (∀ k, (bs ++ nbN l.length ++ (l.take k).flatMap obN).length ≤ 6597069766656) := fun k => by rw [List.length_append, List.length_append, nbN_len]; have := HC k; omega
  have N0 : Hid (∀ W, Wb B g bs W → Calls Tryz.prog 47 #[.pointer (some ⟨g, 0, none⟩), .int .i64 l.length] W fun e w' => e = .returned (.tuple #[]) ∧ Wb B g (bs ++ nbN l.length) w' ∧ Bq B W w') := fun W hW => numberX B g bs _ W hW (by omega)
  clear h hS ha ho hl hn HC
  have E0 : ∀ (args : Array Value) (W : World), (callFunc 53 args).run Tryz.prog W = .ok (.enter 53 args) W := fun _ _ => by kernel_rfl
  go_enter Tryz.func52, Tryz.ntmps52
  go_wp2_with (go_at_call 47; refine (N0.out _ H.out).mono ?_)
  first | (rintro e w1 ⟨he, h1, hb1⟩; have he' := he) | (rintro e w1 he h1 hb1)
  subst he
  have H1 : Hid (Wb B g (bs ++ nbN l.length) w1) := h1
  have B1 : Hid (Bq B w w1) := hb1
  clear h1 hb1 N0 H
  go_upto_region 2 with fail
  go_loopw [14] (fun i wr => ∃ k : Nat, k ≤ l.length ∧ i = .int .i64 k ∧ Wb B g (bs ++ nbN l.length ++ (l.take k).flatMap obN) wr ∧ Bq B w wr) (fun i _ => l.length - (intOf i).toNat)
  case atStart => exact ⟨0, Nat.zero_le _, rfl, by rw [List.take_zero, List.flatMap_nil, List.append_nil]; exact H1.out, B1.out⟩
  case round =>
    obtain ⟨k, hk, rfl, hw, hb⟩ := hrel
    have HW : Hid (Wb B g (bs ++ nbN l.length ++ (l.take k).flatMap obN) wr) := hw
    have HQ : Hid (Bq B w wr) := hb
    clear hw hb H1 B1
    by_cases hlt : k < l.length
    · obtain ⟨a, rfl⟩ := (HA.out wr HQ.out).some (by omega)
      obtain ⟨s, sv, se, sb, rfl, sk⟩ := (HA.out wr HQ.out).el k hlt
      have e0 := sk.c0
      have e1 := sk.cp 0 _ rfl
      have e2 := sk.cp 1 _ rfl
      have e3 := sk.cp 2 _ rfl
      have e4 := sk.cp 3 _ rfl
      have e5 := sk.cp 4 _ rfl
      have e6 := sk.cp 5 _ rfl
      have e7 := sk.cp 6 _ rfl
      have e8 := sk.cp 7 _ rfl
      have e9 := sk.cp 8 _ rfl
      have SE : Hid (l[k]? = some s) := se
      have LT : Hid (k < l.length) := hlt
      have kl : (k : Int) < l.length := by omega
      have ek : wrap64 ((k : Int) + 1) = (k : Int) + 1 := by have := HN.out; unfold wrap64; omega
      have TK : Hid (bs ++ nbN l.length ++ (l.take (k + 1)).flatMap obN = bs ++ nbN l.length ++ (l.take k).flatMap obN ++ obN s) := by show _ = _; rw [List.take_add_one, se, List.flatMap_append]; simp [List.append_assoc]
      have SO := OK.out s (List.mem_of_getElem? se)
      have za := block_lt_of_cell e0
      obtain ⟨AR, eR⟩ : ∃ AR, AR = wr.alloc (.cells #[.int .i64 s.cd, .int .i64 s.a, .int .i64 s.b, .int .i64 s.c, .int .i64 s.d, .int .i64 s.lo, .int .i64 s.hi, .int .u8 s.vk, .int .u64 s.vb, .string s.vs] 88 (0, 0)) := ⟨_, rfl⟩
      have RB : Hid (Below wr.heap.size wr AR) := by rw [eR]; exact (Below.refl _ _).alloc (Nat.le_refl _) _
      have RX : Hid (AR.heap[wr.heap.size]? = some (.cells #[.int .i64 s.cd, .int .i64 s.a, .int .i64 s.b, .int .i64 s.c, .int .i64 s.d, .int .i64 s.lo, .int .i64 s.hi, .int .u8 s.vk, .int .u64 s.vb, .string s.vs] 88 (0, 0))) := by rw [eR]; exact heap_alloc_last _ _
      have WR : Hid (Wb B g (bs ++ nbN l.length ++ (l.take k).flatMap obN) AR) := Wq.below HW.out RB.out
      have QR : Hid (Bq B w AR) := HQ.out.trans (Bq.up RB.out (by have := HQ.out.b.size; omega))
      have R0 : Hid (Calls Tryz.prog 53 #[.pointer (some ⟨g, 0, none⟩), OpV s] AR fun e w' => e = .returned (.tuple #[]) ∧ Wb B g (bs ++ nbN l.length ++ (l.take (k + 1)).flatMap obN) w' ∧ Bq B AR w') := by
        rw [TK.out]
        have HT' := HT.out k
        have hW := WR.out
        generalize bs ++ nbN l.length ++ (l.take k).flatMap obN = bz at *
        exact opX B g bz s AR hW HT' (wf_u8 SO.2.2.2.2.2.2.2.1) SO.2.2.2.2.2.2.2.2.2
      clear hlt se sk sb hk SO
      go_upto_region 4 with fail
      rw [← eR]
      clear eR za e0 e1 e2 e3 e4 e5 e6 e7 e8 e9
      have i0 : AR.cell? ⟨wr.heap.size, 0, none⟩ = some (.int .i64 s.cd) := by simp [World.cell?, RX.out]
      have i1 : AR.cell? ⟨wr.heap.size, 1, none⟩ = some (.int .i64 s.a) := by simp [World.cell?, RX.out]
      have i2 : AR.cell? ⟨wr.heap.size, 2, none⟩ = some (.int .i64 s.b) := by simp [World.cell?, RX.out]
      have i3 : AR.cell? ⟨wr.heap.size, 3, none⟩ = some (.int .i64 s.c) := by simp [World.cell?, RX.out]
      have i4 : AR.cell? ⟨wr.heap.size, 4, none⟩ = some (.int .i64 s.d) := by simp [World.cell?, RX.out]
      have i5 : AR.cell? ⟨wr.heap.size, 5, none⟩ = some (.int .i64 s.lo) := by simp [World.cell?, RX.out]
      have i6 : AR.cell? ⟨wr.heap.size, 6, none⟩ = some (.int .i64 s.hi) := by simp [World.cell?, RX.out]
      have i7 : AR.cell? ⟨wr.heap.size, 7, none⟩ = some (.int .u8 s.vk) := by simp [World.cell?, RX.out]
      have i8 : AR.cell? ⟨wr.heap.size, 8, none⟩ = some (.int .u64 s.vb) := by simp [World.cell?, RX.out]
      have i9 : AR.cell? ⟨wr.heap.size, 9, none⟩ = some (.string s.vs) := by simp [World.cell?, RX.out]
      go_wp2_with fail
      refine (R0.out).mono ?_
      first | (rintro e w2 ⟨he, h1, hb1⟩; have he' := he) | (rintro e w2 he h1 hb1)
      subst he
      have H2 : Hid (Wb B g (bs ++ nbN l.length ++ (l.take (k + 1)).flatMap obN) w2) := h1
      have Q2 : Hid (Bq B w w2) := QR.out.trans hb1
      clear h1 hb1 R0 i0 i1 i2 i3 i4 i5 i6 i7 i8 i9
      go_wp2
      try rw [ek]
      exact ⟨⟨k + 1, Nat.succ_le_of_lt LT.out, rfl, H2.out, Q2.out⟩, msrE LT.out⟩
    · have kl : ¬ (k : Int) < l.length := by omega
      have ek : k = l.length := by omega
      subst ek
      rw [List.take_length, List.append_assoc] at HW
      clear hlt hk
      go_wp2
      go_end0
      exact ⟨rfl, HW.out, HQ.out⟩
set_option maxRecDepth 20000 in
set_option maxHeartbeats 4000000 in
theorem wlCell (B g : Nat) (bs : List Nat) (l : List CeR) (x : Option Addr) (c : Nat) (w : World) {S : Nat → Prop} (h : Wb B g bs w) (hS : ∀ b, S b → b < B) (ha : RwF 11 (Is ceC) S w x l) (ho : ∀ e ∈ l, CeOk e) (hl : bs.length + 8 + l.length * 8388661 ≤ 6597069766656) (hn : l.length ≤ 1048576) :
    Calls Tryz.prog 26 #[.pointer (some ⟨g, 0, none⟩), .slice x l.length c, .func (.func 27) #[.pointer (some ⟨g, 0, none⟩)] #[]] w fun e w' => e = .returned (.tuple #[]) ∧ Wb B g (bs ++ lsN cbN l) w' ∧ Bq B w w' := by
  have HB := h.lt
  have H : Hid (Wb B g bs w) := h
  have HA : Hid (∀ V, Bq B w V → RwF 11 (Is ceC) S V x l) := fun V hV => ha.fr (fun q hq => hV.b.cell (hS _ hq))
  have HN : Hid (l.length ≤ 1048576) := hn
  have HS : Hid (∀ b, S b → b < B) := hS
  have OK : Hid (∀ e ∈ l, CeOk e) := ho
  have HC : ∀ k : Nat, ((l.take k).flatMap cbN).length ≤ l.length * 8388661 := fun k => Nat.le_trans (flat_le _ 8388661 (l.take k) (fun e he => by rw [cbN_len]; have q := ho e (List.mem_of_mem_take he); have q1 : e.is.size ≤ 4194304 := q.2.2.2.2.2.2.1; have q2 : e.ad.size ≤ 4194304 := q.2.2.2.2.2.2.2.2; omega)) (Nat.mul_le_mul_right _ (List.length_take_le' k l))
  have HT : Hid (∀ k, (bs ++ nbN l.length ++ (l.take k).flatMap cbN).length ≤ 6597069766656) := fun k => by rw [List.length_append, List.length_append, nbN_len]; have := HC k; omega
  have N0 : Hid (∀ W, Wb B g bs W → Calls Tryz.prog 47 #[.pointer (some ⟨g, 0, none⟩), .int .i64 l.length] W fun e w' => e = .returned (.tuple #[]) ∧ Wb B g (bs ++ nbN l.length) w' ∧ Bq B W w') := fun W hW => numberX B g bs _ W hW (by omega)
  clear h hS ha ho hl hn HC
  have E0 : ∀ (args : Array Value) (W : World), (callFunc 27 args).run Tryz.prog W = .ok (.enter 27 args) W := fun _ _ => by kernel_rfl
  go_enter Tryz.func26, Tryz.ntmps26
  go_wp2_with (go_at_call 47; refine (N0.out _ H.out).mono ?_)
  first | (rintro e w1 ⟨he, h1, hb1⟩; have he' := he) | (rintro e w1 he h1 hb1)
  subst he
  have H1 : Hid (Wb B g (bs ++ nbN l.length) w1) := h1
  have B1 : Hid (Bq B w w1) := hb1
  clear h1 hb1 N0 H
  go_upto_region 2 with fail
  go_loopw [14] (fun i wr => ∃ k : Nat, k ≤ l.length ∧ i = .int .i64 k ∧ Wb B g (bs ++ nbN l.length ++ (l.take k).flatMap cbN) wr ∧ Bq B w wr) (fun i _ => l.length - (intOf i).toNat)
  case atStart => exact ⟨0, Nat.zero_le _, rfl, by rw [List.take_zero, List.flatMap_nil, List.append_nil]; exact H1.out, B1.out⟩
  case round =>
    obtain ⟨k, hk, rfl, hw, hb⟩ := hrel
    have HW : Hid (Wb B g (bs ++ nbN l.length ++ (l.take k).flatMap cbN) wr) := hw
    have HQ : Hid (Bq B w wr) := hb
    clear hw hb H1 B1
    by_cases hlt : k < l.length
    · obtain ⟨a, rfl⟩ := (HA.out wr HQ.out).some (by omega)
      obtain ⟨s, sv, se, sb, rfl, sk⟩ := (HA.out wr HQ.out).el k hlt
      have e0 := sk.c0
      have e1 := sk.cp 0 _ rfl
      have e2 := sk.cp 1 _ rfl
      have e3 := sk.cp 2 _ rfl
      have e4 := sk.cp 3 _ rfl
      have e5 := sk.cp 4 _ rfl
      have e6 := sk.cp 5 _ rfl
      have e7 := sk.cp 6 _ rfl
      have e8 := sk.cp 7 _ rfl
      have e9 := sk.cp 8 _ rfl
      have e10 := sk.cp 9 _ rfl
      have SE : Hid (l[k]? = some s) := se
      have LT : Hid (k < l.length) := hlt
      have kl : (k : Int) < l.length := by omega
      have ek : wrap64 ((k : Int) + 1) = (k : Int) + 1 := by have := HN.out; unfold wrap64; omega
      have TK : Hid (bs ++ nbN l.length ++ (l.take (k + 1)).flatMap cbN = bs ++ nbN l.length ++ (l.take k).flatMap cbN ++ cbN s) := by show _ = _; rw [List.take_add_one, se, List.flatMap_append]; simp [List.append_assoc]
      have SO := OK.out s (List.mem_of_getElem? se)
      have za := block_lt_of_cell e0
      obtain ⟨AR, eR⟩ : ∃ AR, AR = wr.alloc (.cells #[.int .u8 s.kd, .bool s.sb, .int .i64 s.lo, .int .i64 s.hi, .int .i64 s.mx, .int .u8 s.ik, .int .u64 s.ib, .string s.is, .bool s.kp, .int .i64 s.dr, .string s.ad] 56 (0, 0)) := ⟨_, rfl⟩
      have RB : Hid (Below wr.heap.size wr AR) := by rw [eR]; exact (Below.refl _ _).alloc (Nat.le_refl _) _
      have RX : Hid (AR.heap[wr.heap.size]? = some (.cells #[.int .u8 s.kd, .bool s.sb, .int .i64 s.lo, .int .i64 s.hi, .int .i64 s.mx, .int .u8 s.ik, .int .u64 s.ib, .string s.is, .bool s.kp, .int .i64 s.dr, .string s.ad] 56 (0, 0))) := by rw [eR]; exact heap_alloc_last _ _
      have WR : Hid (Wb B g (bs ++ nbN l.length ++ (l.take k).flatMap cbN) AR) := Wq.below HW.out RB.out
      have QR : Hid (Bq B w AR) := HQ.out.trans (Bq.up RB.out (by have := HQ.out.b.size; omega))
      have R0 : Hid (Calls Tryz.prog 27 #[.pointer (some ⟨g, 0, none⟩), CeV s] AR fun e w' => e = .returned (.tuple #[]) ∧ Wb B g (bs ++ nbN l.length ++ (l.take (k + 1)).flatMap cbN) w' ∧ Bq B AR w') := by
        rw [TK.out]
        have HT' := HT.out k
        have hW := WR.out
        generalize bs ++ nbN l.length ++ (l.take k).flatMap cbN = bz at *
        exact cellX B g bz s AR hW HT' (wf_u8 SO.1) (wf_u8 SO.2.2.2.2.1) SO.2.2.2.2.2.2.1 SO.2.2.2.2.2.2.2.2
      clear hlt se sk sb hk SO
      go_upto_region 4 with fail
      rw [← eR]
      clear eR za e0 e1 e2 e3 e4 e5 e6 e7 e8 e9 e10
      have i0 : AR.cell? ⟨wr.heap.size, 0, none⟩ = some (.int .u8 s.kd) := by simp [World.cell?, RX.out]
      have i1 : AR.cell? ⟨wr.heap.size, 1, none⟩ = some (.bool s.sb) := by simp [World.cell?, RX.out]
      have i2 : AR.cell? ⟨wr.heap.size, 2, none⟩ = some (.int .i64 s.lo) := by simp [World.cell?, RX.out]
      have i3 : AR.cell? ⟨wr.heap.size, 3, none⟩ = some (.int .i64 s.hi) := by simp [World.cell?, RX.out]
      have i4 : AR.cell? ⟨wr.heap.size, 4, none⟩ = some (.int .i64 s.mx) := by simp [World.cell?, RX.out]
      have i5 : AR.cell? ⟨wr.heap.size, 5, none⟩ = some (.int .u8 s.ik) := by simp [World.cell?, RX.out]
      have i6 : AR.cell? ⟨wr.heap.size, 6, none⟩ = some (.int .u64 s.ib) := by simp [World.cell?, RX.out]
      have i7 : AR.cell? ⟨wr.heap.size, 7, none⟩ = some (.string s.is) := by simp [World.cell?, RX.out]
      have i8 : AR.cell? ⟨wr.heap.size, 8, none⟩ = some (.bool s.kp) := by simp [World.cell?, RX.out]
      have i9 : AR.cell? ⟨wr.heap.size, 9, none⟩ = some (.int .i64 s.dr) := by simp [World.cell?, RX.out]
      have i10 : AR.cell? ⟨wr.heap.size, 10, none⟩ = some (.string s.ad) := by simp [World.cell?, RX.out]
      go_wp2_with fail
      refine (R0.out).mono ?_
      first | (rintro e w2 ⟨he, h1, hb1⟩; have he' := he) | (rintro e w2 he h1 hb1)
      subst he
      have H2 : Hid (Wb B g (bs ++ nbN l.length ++ (l.take (k + 1)).flatMap cbN) w2) := h1
      have Q2 : Hid (Bq B w w2) := QR.out.trans hb1
      clear h1 hb1 R0 i0 i1 i2 i3 i4 i5 i6 i7 i8 i9 i10
      go_wp2
      try rw [ek]
      exact ⟨⟨k + 1, Nat.succ_le_of_lt LT.out, rfl, H2.out, Q2.out⟩, msrE LT.out⟩
    · have kl : ¬ (k : Int) < l.length := by omega
      have ek : k = l.length := by omega
      subst ek
      rw [List.take_length, List.append_assoc] at HW
      clear hlt hk
      go_wp2
      go_end0
      exact ⟨rfl, HW.out, HQ.out⟩
end Go.Proofs.YtkickdmomompjaaGreat
namespace Go.Proofs.YtkickdmomompjaaGreat
set_option linter.unusedVariables false
open Go.RowKit
def flbN (f : FlR) : List Nat := tbN f.nm ++ nsN [f.wh, f.ce, f.ba, f.rg, f.sl] ++ lsN obN f.os ++ lsN lbN f.ls
def jbN (j : JbR) : List Nat := tbN j.nm ++ nsN [j.iv, j.sg, j.pr] ++ lsN nbN j.cs ++ lsN nbN j.bs ++ nbN j.bd
theorem lsN_le {α : Type} (f : α → List Nat) (c : Nat) (l : List α) (h : ∀ e ∈ l, (f e).length ≤ c) : (lsN f l).length ≤ 8 + l.length * c := by
  unfold lsN
  rw [List.length_append, nbN_len]
  have := flat_le f c l h
  omega
theorem lsO_le {l : List OpR} (h : ∀ o ∈ l, OpOk o) : (lsN obN l).length ≤ 8 + l.length * 4194377 := lsN_le _ _ _ (fun e he => by rw [obN_len]; have q1 : e.vs.size ≤ 4194304 := (h e he).2.2.2.2.2.2.2.2.2; omega)
theorem lsL_le (l : List LpR) : (lsN lbN l).length ≤ 8 + l.length * 24 := lsN_le _ _ _ (fun e he => by rw [lbN_len]; omega)
theorem lsI_le (l : List Int) : (lsN nbN l).length ≤ 8 + l.length * 8 := lsN_le _ _ _ (fun e he => by rw [nbN_len]; omega)
def FlS (f : FlR) : Prop := FlOk f ∧ f.os.length ≤ 16384 ∧ f.ls.length ≤ 16384
theorem flbN_len {f : FlR} (h : FlS f) : (flbN f).length ≤ 68800000000 := by
  obtain ⟨ok, h1, h2⟩ := h
  have q0 : f.nm.size ≤ 4194304 := ok.1
  have q1 := lsO_le ok.2.2.2.2.2.2.1
  have q2 := lsL_le f.ls
  unfold flbN
  rw [List.length_append, List.length_append, List.length_append, tbN_len, nsN_len]
  simp only [List.length_cons, List.length_nil]
  omega
theorem jbN_len {j : JbR} (h : JbOk j) : (jbN j).length ≤ 22000000 := by
  have q0 : j.nm.size ≤ 4194304 := h.1
  have q1 := lsI_le j.cs
  have q2 := lsI_le j.bs
  have q3 := h.2.2.2.2.2.2.2.1
  have q4 := h.2.2.2.2.2.2.2.2
  unfold jbN
  rw [List.length_append, List.length_append, List.length_append, List.length_append, tbN_len, nsN_len, nbN_len]
  simp only [List.length_cons, List.length_nil]
  omega
set_option maxRecDepth 20000 in
set_option maxHeartbeats 4000000 in
theorem codeX (B g : Nat) (bs : List Nat) (f : FlR) (x1 x2 : Option Addr) (p1 p2 : Nat) {S : Nat → Prop} (w : World) (h : Wb B g bs w) (hl : bs.length ≤ 6000000000000) (hS : ∀ b, S b → b < B) (hq : FlQ S w f x1 x2) (ho : FlS f) :
    Calls Tryz.prog 29 #[.pointer (some ⟨g, 0, none⟩), FlV f x1 x2 p1 p2] w fun e w' => e = .returned (.tuple #[]) ∧ Wb B g (bs ++ flbN f) w' ∧ Bq B w w' := by
  have HB := h.lt
  have R0 : Hid (∀ W, Bq B w W → Wb B g (bs) W → Calls Tryz.prog 25 #[.pointer (some ⟨g, 0, none⟩), .string f.nm] W fun e w' => e = .returned (.tuple #[]) ∧ Wb B g (bs ++ tbN f.nm) w' ∧ Bq B W w') := fun W hQ hW => textX B g (bs) f.nm W hW (by omega) ho.1.1
  have R1 : Hid (∀ W, Bq B w W → Wb B g (bs ++ tbN f.nm) W → Calls Tryz.prog 50 #[.pointer (some ⟨g, 0, none⟩), .slice (some ⟨W.heap.size, 0, none⟩) 5 5] (W.alloc (.cells #[.int .i64 f.wh, .int .i64 f.ce, .int .i64 f.ba, .int .i64 f.rg, .int .i64 f.sl] 3 (0, 0))) fun e w' => e = .returned (.tuple #[]) ∧ Wb B g (bs ++ tbN f.nm ++ nsN [f.wh, f.ce, f.ba, f.rg, f.sl]) w' ∧ Bq B W w') := fun W hQ hW => by
    have q := numbersX B g (bs ++ tbN f.nm) [f.wh, f.ce, f.ba, f.rg, f.sl] W.heap.size 5 (0, 0) (W.alloc (.cells #[.int .i64 f.wh, .int .i64 f.ce, .int .i64 f.ba, .int .i64 f.rg, .int .i64 f.sl] 3 (0, 0))) (Wq.below hW ((Below.refl _ _).alloc (Nat.le_refl _) _)) (heap_alloc_last _ _) (by (repeat first | rw [List.length_append] | rw [nsN_len] | rw [nbN_len] | rw [tbN_len] | rw [List.length_cons] | rw [List.length_nil]); have z1 := lsO_le ho.1.2.2.2.2.2.2.1; have z2 := lsL_le f.ls; have z3 := ho.2.1; have z4 := ho.2.2; have z5 : f.nm.size ≤ 4194304 := ho.1.1; omega) (by simp)
    have z := hW.lt
    refine q.mono ?_
    rintro e w' ⟨he, h1, h2⟩
    exact ⟨he, by exact h1, (Bq.up ((Below.refl _ _).alloc (Nat.le_refl _) _) (by omega)).trans h2⟩
  have R2 : Hid (∀ W, Bq B w W → Wb B g (bs ++ tbN f.nm ++ nsN [f.wh, f.ce, f.ba, f.rg, f.sl]) W → Calls Tryz.prog 52 #[.pointer (some ⟨g, 0, none⟩), .slice x1 f.os.length p1, .func (.func 53) #[.pointer (some ⟨g, 0, none⟩)] #[]] W fun e w' => e = .returned (.tuple #[]) ∧ Wb B g (bs ++ tbN f.nm ++ nsN [f.wh, f.ce, f.ba, f.rg, f.sl] ++ lsN obN f.os) w' ∧ Bq B W w') := fun W hQ hW => wlOp B g (bs ++ tbN f.nm ++ nsN [f.wh, f.ce, f.ba, f.rg, f.sl]) f.os x1 p1 W hW hS (hq.1.fr (fun q hqq => hQ.b.cell (hS _ hqq))) ho.1.2.2.2.2.2.2.1 (by (repeat first | rw [List.length_append] | rw [nsN_len] | rw [nbN_len] | rw [tbN_len] | rw [List.length_cons] | rw [List.length_nil]); have z1 := lsO_le ho.1.2.2.2.2.2.2.1; have z2 := lsL_le f.ls; have z3 := ho.2.1; have z4 := ho.2.2; have z5 : f.nm.size ≤ 4194304 := ho.1.1; omega) (by have := ho.2.1; omega)
  have R3 : Hid (∀ W, Bq B w W → Wb B g (bs ++ tbN f.nm ++ nsN [f.wh, f.ce, f.ba, f.rg, f.sl] ++ lsN obN f.os) W → Calls Tryz.prog 54 #[.pointer (some ⟨g, 0, none⟩), .slice x2 f.ls.length p2, .func (.func 55) #[.pointer (some ⟨g, 0, none⟩)] #[]] W fun e w' => e = .returned (.tuple #[]) ∧ Wb B g (bs ++ flbN f) w' ∧ Bq B W w') := fun W hQ hW => by
    have q := wlLoop B g (bs ++ tbN f.nm ++ nsN [f.wh, f.ce, f.ba, f.rg, f.sl] ++ lsN obN f.os) f.ls x2 p2 W hW hS (hq.2.fr (fun q hqq => hQ.b.cell (hS _ hqq))) ho.1.2.2.2.2.2.2.2.1 (by (repeat first | rw [List.length_append] | rw [nsN_len] | rw [nbN_len] | rw [tbN_len] | rw [List.length_cons] | rw [List.length_nil]); have z1 := lsO_le ho.1.2.2.2.2.2.2.1; have z2 := lsL_le f.ls; have z3 := ho.2.1; have z4 := ho.2.2; have z5 : f.nm.size ≤ 4194304 := ho.1.1; omega) (by have := ho.2.2; omega)
    refine q.mono ?_
    rintro e w' ⟨he, h1, h2⟩
    exact ⟨he, by simpa only [flbN, List.append_assoc] using h1, h2⟩
  obtain ⟨AW, eW⟩ : ∃ AW, AW = w.alloc (.cells #[.string f.nm, .int .i64 f.wh, .int .i64 f.ce, .int .i64 f.ba, .int .i64 f.rg, .int .i64 f.sl, .slice x1 f.os.length p1, .slice x2 f.ls.length p2] 66 (0, 0)) := ⟨_, rfl⟩
  have AX : Hid (AW.heap[w.heap.size]? = some (.cells #[.string f.nm, .int .i64 f.wh, .int .i64 f.ce, .int .i64 f.ba, .int .i64 f.rg, .int .i64 f.sl, .slice x1 f.os.length p1, .slice x2 f.ls.length p2] 66 (0, 0))) := by rw [eW]; exact heap_alloc_last _ _
  have AB : Hid (Below w.heap.size w AW) := by rw [eW]; exact (Below.refl _ _).alloc (Nat.le_refl _) _
  have Q0 : Hid (Bq B AW AW) := Bq.refl _ _
  have QA : Hid (Bq B w AW) := Bq.up AB.out (by omega)
  have H0 : Hid (Wb B g bs AW) := Wq.below h AB.out
  clear h hl hS hq ho
  go_enter Tryz.func29, Tryz.ntmps29
  go_upto_region 1 with fail
  rw [← eW]
  clear eW
  have X := Q0.out.k _ _ _ _ AX.out (by decide) (by decide)
  have i0 : AW.cell? ⟨w.heap.size, 0, none⟩ = some (.string f.nm) := by simp [World.cell?, X]
  clear X
  go_wp2_with (go_at_call 25; refine (R0.out _ (QA.out.trans Q0.out) H0.out).mono ?_)
  first | (rintro e w1 ⟨he, h1, hb1⟩; have he' := he) | (rintro e w1 he h1 hb1)
  subst he
  have H1 : Hid (Wb B g (bs ++ tbN f.nm) w1) := h1
  have Q1 : Hid (Bq B AW w1) := Q0.out.trans hb1
  clear h1 hb1 i0
  have X := Q1.out.k _ _ _ _ AX.out (by decide) (by decide)
  have i1 : w1.cell? ⟨w.heap.size, 1, none⟩ = some (.int .i64 f.wh) := by simp [World.cell?, X]
  have i2 : w1.cell? ⟨w.heap.size, 2, none⟩ = some (.int .i64 f.ce) := by simp [World.cell?, X]
  have i3 : w1.cell? ⟨w.heap.size, 3, none⟩ = some (.int .i64 f.ba) := by simp [World.cell?, X]
  have i4 : w1.cell? ⟨w.heap.size, 4, none⟩ = some (.int .i64 f.rg) := by simp [World.cell?, X]
  have i5 : w1.cell? ⟨w.heap.size, 5, none⟩ = some (.int .i64 f.sl) := by simp [World.cell?, X]
  clear X
  go_wp2_with (go_at_call 50; refine (R1.out _ (QA.out.trans Q1.out) H1.out).mono ?_)
  first | (rintro e w2 ⟨he, h1, hb1⟩; have he' := he) | (rintro e w2 he h1 hb1)
  subst he
  have H2 : Hid (Wb B g (bs ++ tbN f.nm ++ nsN [f.wh, f.ce, f.ba, f.rg, f.sl]) w2) := h1
  have Q2 : Hid (Bq B AW w2) := Q1.out.trans hb1
  clear h1 hb1 i1 i2 i3 i4 i5
  have X := Q2.out.k _ _ _ _ AX.out (by decide) (by decide)
  have i6 : w2.cell? ⟨w.heap.size, 6, none⟩ = some (.slice x1 f.os.length p1) := by simp [World.cell?, X]
  clear X
  go_wp2_with (go_at_call 52; refine (R2.out _ (QA.out.trans Q2.out) H2.out).mono ?_)
  first | (rintro e w3 ⟨he, h1, hb1⟩; have he' := he) | (rintro e w3 he h1 hb1)
  subst he
  have H3 : Hid (Wb B g (bs ++ tbN f.nm ++ nsN [f.wh, f.ce, f.ba, f.rg, f.sl] ++ lsN obN f.os) w3) := h1
  have Q3 : Hid (Bq B AW w3) := Q2.out.trans hb1
  clear h1 hb1 i6
  have X := Q3.out.k _ _ _ _ AX.out (by decide) (by decide)
  have i7 : w3.cell? ⟨w.heap.size, 7, none⟩ = some (.slice x2 f.ls.length p2) := by simp [World.cell?, X]
  clear X
  go_wp2_with (go_at_call 54; refine (R3.out _ (QA.out.trans Q3.out) H3.out).mono ?_)
  first | (rintro e w4 ⟨he, h1, hb1⟩; have he' := he) | (rintro e w4 he h1 hb1)
  subst he
  have H4 : Hid (Wb B g (bs ++ flbN f) w4) := h1
  have Q4 : Hid (Bq B AW w4) := Q3.out.trans hb1
  clear h1 hb1 i7
  go_wp2
  go_end0
  exact ⟨rfl, H4.out, QA.out.trans Q4.out⟩
set_option maxRecDepth 20000 in
set_option maxHeartbeats 4000000 in
theorem jobX (B g : Nat) (bs : List Nat) (j : JbR) (x1 x2 : Option Addr) (p1 p2 : Nat) {S : Nat → Prop} (w : World) (h : Wb B g bs w) (hl : bs.length ≤ 6000000000000) (hS : ∀ b, S b → b < B) (hq : JbQ S w j x1 x2) (ho : JbOk j) :
    Calls Tryz.prog 31 #[.pointer (some ⟨g, 0, none⟩), .agg #[.string j.nm, .int .i64 j.iv, .int .i64 j.sg, .int .i64 j.pr, .slice x1 j.cs.length p1, .slice x2 j.bs.length p2, .int .i64 j.bd]] w fun e w' => e = .returned (.tuple #[]) ∧ Wb B g (bs ++ jbN j) w' ∧ Bq B w w' := by
  have HB := h.lt
  have R0 : Hid (∀ W, Bq B w W → Wb B g (bs) W → Calls Tryz.prog 25 #[.pointer (some ⟨g, 0, none⟩), .string j.nm] W fun e w' => e = .returned (.tuple #[]) ∧ Wb B g (bs ++ tbN j.nm) w' ∧ Bq B W w') := fun W hQ hW => textX B g (bs) j.nm W hW (by omega) ho.1
  have R1 : Hid (∀ W, Bq B w W → Wb B g (bs ++ tbN j.nm) W → Calls Tryz.prog 50 #[.pointer (some ⟨g, 0, none⟩), .slice (some ⟨W.heap.size, 0, none⟩) 3 3] (W.alloc (.cells #[.int .i64 j.iv, .int .i64 j.sg, .int .i64 j.pr] 3 (0, 0))) fun e w' => e = .returned (.tuple #[]) ∧ Wb B g (bs ++ tbN j.nm ++ nsN [j.iv, j.sg, j.pr]) w' ∧ Bq B W w') := fun W hQ hW => by
    have q := numbersX B g (bs ++ tbN j.nm) [j.iv, j.sg, j.pr] W.heap.size 3 (0, 0) (W.alloc (.cells #[.int .i64 j.iv, .int .i64 j.sg, .int .i64 j.pr] 3 (0, 0))) (Wq.below hW ((Below.refl _ _).alloc (Nat.le_refl _) _)) (heap_alloc_last _ _) (by (repeat first | rw [List.length_append] | rw [nsN_len] | rw [nbN_len] | rw [tbN_len] | rw [List.length_cons] | rw [List.length_nil]); have z1 := lsI_le j.cs; have z2 := lsI_le j.bs; have z3 := ho.2.2.2.2.2.2.2.1; have z4 := ho.2.2.2.2.2.2.2.2; have z5 : j.nm.size ≤ 4194304 := ho.1; omega) (by simp)
    have z := hW.lt
    refine q.mono ?_
    rintro e w' ⟨he, h1, h2⟩
    exact ⟨he, by exact h1, (Bq.up ((Below.refl _ _).alloc (Nat.le_refl _) _) (by omega)).trans h2⟩
  have R2 : Hid (∀ W, Bq B w W → Wb B g (bs ++ tbN j.nm ++ nsN [j.iv, j.sg, j.pr]) W → Calls Tryz.prog 56 #[.pointer (some ⟨g, 0, none⟩), .slice x1 j.cs.length p1, .func (.func 47) #[.pointer (some ⟨g, 0, none⟩)] #[]] W fun e w' => e = .returned (.tuple #[]) ∧ Wb B g (bs ++ tbN j.nm ++ nsN [j.iv, j.sg, j.pr] ++ lsN nbN j.cs) w' ∧ Bq B W w') := fun W hQ hW => wlInt B g (bs ++ tbN j.nm ++ nsN [j.iv, j.sg, j.pr]) j.cs x1 p1 W hW hS (hq.1.fr (fun q hqq => hQ.b.cell (hS _ hqq))) (fun _ _ => trivial) (by (repeat first | rw [List.length_append] | rw [nsN_len] | rw [nbN_len] | rw [tbN_len] | rw [List.length_cons] | rw [List.length_nil]); have z1 := lsI_le j.cs; have z2 := lsI_le j.bs; have z3 := ho.2.2.2.2.2.2.2.1; have z4 := ho.2.2.2.2.2.2.2.2; have z5 : j.nm.size ≤ 4194304 := ho.1; omega) (ho.2.2.2.2.2.2.2.1)
  have R3 : Hid (∀ W, Bq B w W → Wb B g (bs ++ tbN j.nm ++ nsN [j.iv, j.sg, j.pr] ++ lsN nbN j.cs) W → Calls Tryz.prog 56 #[.pointer (some ⟨g, 0, none⟩), .slice x2 j.bs.length p2, .func (.func 47) #[.pointer (some ⟨g, 0, none⟩)] #[]] W fun e w' => e = .returned (.tuple #[]) ∧ Wb B g (bs ++ tbN j.nm ++ nsN [j.iv, j.sg, j.pr] ++ lsN nbN j.cs ++ lsN nbN j.bs) w' ∧ Bq B W w') := fun W hQ hW => wlInt B g (bs ++ tbN j.nm ++ nsN [j.iv, j.sg, j.pr] ++ lsN nbN j.cs) j.bs x2 p2 W hW hS (hq.2.fr (fun q hqq => hQ.b.cell (hS _ hqq))) (fun _ _ => trivial) (by (repeat first | rw [List.length_append] | rw [nsN_len] | rw [nbN_len] | rw [tbN_len] | rw [List.length_cons] | rw [List.length_nil]); have z1 := lsI_le j.cs; have z2 := lsI_le j.bs; have z3 := ho.2.2.2.2.2.2.2.1; have z4 := ho.2.2.2.2.2.2.2.2; have z5 : j.nm.size ≤ 4194304 := ho.1; omega) (ho.2.2.2.2.2.2.2.2)
  have R4 : Hid (∀ W, Bq B w W → Wb B g (bs ++ tbN j.nm ++ nsN [j.iv, j.sg, j.pr] ++ lsN nbN j.cs ++ lsN nbN j.bs) W → Calls Tryz.prog 47 #[.pointer (some ⟨g, 0, none⟩), .int .i64 j.bd] W fun e w' => e = .returned (.tuple #[]) ∧ Wb B g (bs ++ jbN j) w' ∧ Bq B W w') := fun W hQ hW => by
    have q := numberX B g (bs ++ tbN j.nm ++ nsN [j.iv, j.sg, j.pr] ++ lsN nbN j.cs ++ lsN nbN j.bs) j.bd W hW (by (repeat first | rw [List.length_append] | rw [nsN_len] | rw [nbN_len] | rw [tbN_len] | rw [List.length_cons] | rw [List.length_nil]); have z1 := lsI_le j.cs; have z2 := lsI_le j.bs; have z3 := ho.2.2.2.2.2.2.2.1; have z4 := ho.2.2.2.2.2.2.2.2; have z5 : j.nm.size ≤ 4194304 := ho.1; omega)
    refine q.mono ?_
    rintro e w' ⟨he, h1, h2⟩
    exact ⟨he, by simpa only [jbN, List.append_assoc] using h1, h2⟩
  obtain ⟨AW, eW⟩ : ∃ AW, AW = w.alloc (.cells #[.string j.nm, .int .i64 j.iv, .int .i64 j.sg, .int .i64 j.pr, .slice x1 j.cs.length p1, .slice x2 j.bs.length p2, .int .i64 j.bd] 61 (0, 0)) := ⟨_, rfl⟩
  have AX : Hid (AW.heap[w.heap.size]? = some (.cells #[.string j.nm, .int .i64 j.iv, .int .i64 j.sg, .int .i64 j.pr, .slice x1 j.cs.length p1, .slice x2 j.bs.length p2, .int .i64 j.bd] 61 (0, 0))) := by rw [eW]; exact heap_alloc_last _ _
  have AB : Hid (Below w.heap.size w AW) := by rw [eW]; exact (Below.refl _ _).alloc (Nat.le_refl _) _
  have Q0 : Hid (Bq B AW AW) := Bq.refl _ _
  have QA : Hid (Bq B w AW) := Bq.up AB.out (by omega)
  have H0 : Hid (Wb B g bs AW) := Wq.below h AB.out
  clear h hl hS hq ho
  go_enter Tryz.func31, Tryz.ntmps31
  go_upto_region 1 with fail
  rw [← eW]
  clear eW
  have X := Q0.out.k _ _ _ _ AX.out (by decide) (by decide)
  have i0 : AW.cell? ⟨w.heap.size, 0, none⟩ = some (.string j.nm) := by simp [World.cell?, X]
  clear X
  go_wp2_with (go_at_call 25; refine (R0.out _ (QA.out.trans Q0.out) H0.out).mono ?_)
  first | (rintro e w1 ⟨he, h1, hb1⟩; have he' := he) | (rintro e w1 he h1 hb1)
  subst he
  have H1 : Hid (Wb B g (bs ++ tbN j.nm) w1) := h1
  have Q1 : Hid (Bq B AW w1) := Q0.out.trans hb1
  clear h1 hb1 i0
  have X := Q1.out.k _ _ _ _ AX.out (by decide) (by decide)
  have i1 : w1.cell? ⟨w.heap.size, 1, none⟩ = some (.int .i64 j.iv) := by simp [World.cell?, X]
  have i2 : w1.cell? ⟨w.heap.size, 2, none⟩ = some (.int .i64 j.sg) := by simp [World.cell?, X]
  have i3 : w1.cell? ⟨w.heap.size, 3, none⟩ = some (.int .i64 j.pr) := by simp [World.cell?, X]
  clear X
  go_wp2_with (go_at_call 50; refine (R1.out _ (QA.out.trans Q1.out) H1.out).mono ?_)
  first | (rintro e w2 ⟨he, h1, hb1⟩; have he' := he) | (rintro e w2 he h1 hb1)
  subst he
  have H2 : Hid (Wb B g (bs ++ tbN j.nm ++ nsN [j.iv, j.sg, j.pr]) w2) := h1
  have Q2 : Hid (Bq B AW w2) := Q1.out.trans hb1
  clear h1 hb1 i1 i2 i3
  have X := Q2.out.k _ _ _ _ AX.out (by decide) (by decide)
  have i4 : w2.cell? ⟨w.heap.size, 4, none⟩ = some (.slice x1 j.cs.length p1) := by simp [World.cell?, X]
  clear X
  go_wp2_with (go_at_call 56; refine (R2.out _ (QA.out.trans Q2.out) H2.out).mono ?_)
  first | (rintro e w3 ⟨he, h1, hb1⟩; have he' := he) | (rintro e w3 he h1 hb1)
  subst he
  have H3 : Hid (Wb B g (bs ++ tbN j.nm ++ nsN [j.iv, j.sg, j.pr] ++ lsN nbN j.cs) w3) := h1
  have Q3 : Hid (Bq B AW w3) := Q2.out.trans hb1
  clear h1 hb1 i4
  have X := Q3.out.k _ _ _ _ AX.out (by decide) (by decide)
  have i5 : w3.cell? ⟨w.heap.size, 5, none⟩ = some (.slice x2 j.bs.length p2) := by simp [World.cell?, X]
  clear X
  go_wp2_with (go_at_call 56; refine (R3.out _ (QA.out.trans Q3.out) H3.out).mono ?_)
  first | (rintro e w4 ⟨he, h1, hb1⟩; have he' := he) | (rintro e w4 he h1 hb1)
  subst he
  have H4 : Hid (Wb B g (bs ++ tbN j.nm ++ nsN [j.iv, j.sg, j.pr] ++ lsN nbN j.cs ++ lsN nbN j.bs) w4) := h1
  have Q4 : Hid (Bq B AW w4) := Q3.out.trans hb1
  clear h1 hb1 i5
  have X := Q4.out.k _ _ _ _ AX.out (by decide) (by decide)
  have i6 : w4.cell? ⟨w.heap.size, 6, none⟩ = some (.int .i64 j.bd) := by simp [World.cell?, X]
  clear X
  go_wp2_with (go_at_call 47; refine (R4.out _ (QA.out.trans Q4.out) H4.out).mono ?_)
  first | (rintro e w5 ⟨he, h1, hb1⟩; have he' := he) | (rintro e w5 he h1 hb1)
  subst he
  have H5 : Hid (Wb B g (bs ++ jbN j) w5) := h1
  have Q5 : Hid (Bq B AW w5) := Q4.out.trans hb1
  clear h1 hb1 i6
  go_wp2
  go_end0
  exact ⟨rfl, H5.out, QA.out.trans Q5.out⟩
end Go.Proofs.YtkickdmomompjaaGreat
