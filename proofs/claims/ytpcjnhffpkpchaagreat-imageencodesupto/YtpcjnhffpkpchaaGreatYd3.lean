/- image: lists of codes and tasks; an image written exactly; no statement of the seat is proved here. -/
import Derived.Test.YtpcjnhffpkpchaaGreatYd2
import Derived.Test.YtpcjnhffpkpchaaGreatYa1
import Derived.Test.YtpcjnhffpkpchaaGreatYa4
import Derived.Test.YtpcjnhffpkpchaaGreatCkGY
namespace Go.Proofs.YtpcjnhffpkpchaaGreat
set_option linter.unusedVariables false
open Go.RowKit
def lsN {α : Type} (f : α → List Nat) (l : List α) : List Nat := nbN l.length ++ l.flatMap f
theorem flat_le {α : Type} (f : α → List Nat) (c : Nat) (l : List α) (h : ∀ e ∈ l, (f e).length ≤ c) : (l.flatMap f).length ≤ l.length * c := by
  induction l with
  | nil => simp
  | cons a l ih =>
    rw [List.flatMap_cons, List.length_append, List.length_cons, Nat.add_mul, Nat.one_mul]
    have h1 := h a (by simp)
    have h2 := ih (fun e he => h e (by simp [he]))
    omega
set_option maxRecDepth 20000 in
set_option maxHeartbeats 4000000 in
theorem wlInt (B g : Nat) (bs : List Nat) (l : List Int) (x : Option Addr) (c : Nat) (w : World) {S : Nat → Prop} (h : Wb B g bs w) (hS : ∀ b, S b → b < B) (ha : RwF 1 (Is inC) S w x l) (ho : ∀ e ∈ l, True) (hl : bs.length + 8 + l.length * 8 ≤ 6597069766656) (hn : l.length ≤ 1048576) :
    Calls Tryz.prog 68 #[.pointer (some ⟨g, 0, none⟩), .slice x l.length c, .func (.func 59) #[.pointer (some ⟨g, 0, none⟩)] #[]] w fun e w' => e = .returned (.tuple #[]) ∧ Wb B g (bs ++ lsN nbN l) w' ∧ Bq B w w' := by
  have HB := h.lt
  have H : Hid (Wb B g bs w) := h
  have HA : Hid (∀ V, Bq B w V → RwF 1 (Is inC) S V x l) := fun V hV => ha.fr (fun q hq => hV.b.cell (hS _ hq))
  have HN : Hid (l.length ≤ 1048576) := hn
  have HS : Hid (∀ b, S b → b < B) := hS
  have OK : Hid (∀ e ∈ l, True) := ho
  have HC : ∀ k : Nat, ((l.take k).flatMap nbN).length ≤ l.length * 8 := fun k => Nat.le_trans (flat_le _ 8 (l.take k) (fun e he => by rw [nbN_len]; omega)) (Nat.mul_le_mul_right _ (List.length_take_le' k l))
  have HT : Hid (∀ k, (bs ++ nbN l.length ++ (l.take k).flatMap nbN).length ≤ 6597069766656) := fun k => by rw [List.length_append, List.length_append, nbN_len]; have := HC k; omega
  have N0 : Hid (∀ W, Wb B g bs W → Calls Tryz.prog 59 #[.pointer (some ⟨g, 0, none⟩), .int .i64 l.length] W fun e w' => e = .returned (.tuple #[]) ∧ Wb B g (bs ++ nbN l.length) w' ∧ Bq B W w') := fun W hW => numberX B g bs _ W hW (by omega)
  clear h hS ha ho hl hn HC
  have E0 : ∀ (args : Array Value) (W : World), (callFunc 59 args).run Tryz.prog W = .ok (.enter 59 args) W := fun _ _ => by kernel_rfl
  go_enter Tryz.func68, Tryz.ntmps68
  go_wp2_with (go_at_call 59; refine (N0.out _ H.out).mono ?_)
  first | (rintro e w1 ⟨he, h1, hb1⟩; have he' := he) | (rintro e w1 he h1 hb1)
  subst he
  have H1 : Hid (Wb B g (bs ++ nbN l.length) w1) := h1
  have B1 : Hid (Bq B w w1) := hb1
  clear h1 hb1 N0 H
  go_upto_region 2 with fail
  go_loopw [14] (fun i wr => ∃ k : Nat, k ≤ l.length ∧ i = .int .i64 k ∧ Wb B g (bs ++ nbN l.length ++ (l.take k).flatMap nbN) wr ∧ Bq B w wr) (fun i _ => l.length - (intOf i).toNat)
  case atStart => exact ⟨0, Nat.zero_le _, rfl, by rw [List.take_zero, List.flatMap_nil, List.append_nil]; exact H1.out, B1.out⟩
  case round =>
    obtain ⟨k, hk, rfl, hw, hb⟩ := hrel
    have HW : Hid (Wb B g (bs ++ nbN l.length ++ (l.take k).flatMap nbN) wr) := hw
    have HQ : Hid (Bq B w wr) := hb
    clear hw hb H1 B1
    by_cases hlt : k < l.length
    · obtain ⟨a, rfl⟩ := (HA.out wr HQ.out).some (by omega)
      obtain ⟨s, sv, se, sb, rfl, sk⟩ := (HA.out wr HQ.out).el k hlt
      have e0 := sk.c0
      rw [Nat.mul_one] at e0
      have SE : Hid (l[k]? = some s) := se
      have LT : Hid (k < l.length) := hlt
      have kl : (k : Int) < l.length := by omega
      have ek : wrap64 ((k : Int) + 1) = (k : Int) + 1 := by have := HN.out; unfold wrap64; omega
      have TK : Hid (bs ++ nbN l.length ++ (l.take (k + 1)).flatMap nbN = bs ++ nbN l.length ++ (l.take k).flatMap nbN ++ nbN s) := by show _ = _; rw [List.take_add_one, se, List.flatMap_append]; simp [List.append_assoc]
      have SO := OK.out s (List.mem_of_getElem? se)
      have R0 : Hid (Calls Tryz.prog 59 #[.pointer (some ⟨g, 0, none⟩), .int .i64 s] wr fun e w' => e = .returned (.tuple #[]) ∧ Wb B g (bs ++ nbN l.length ++ (l.take (k + 1)).flatMap nbN) w' ∧ Bq B wr w') := by
        rw [TK.out]
        have HT' := HT.out k
        have hW := HW.out
        generalize bs ++ nbN l.length ++ (l.take k).flatMap nbN = bz at *
        have V := wr
        exact numberX B g bz s wr hW (by omega)
      clear hlt se sk sb hk SO
      go_wp2_with fail
      refine (R0.out).mono ?_
      first | (rintro e w2 ⟨he, h1, hb1⟩; have he' := he) | (rintro e w2 he h1 hb1)
      subst he
      have H2 : Hid (Wb B g (bs ++ nbN l.length ++ (l.take (k + 1)).flatMap nbN) w2) := h1
      have Q2 : Hid (Bq B w w2) := HQ.out.trans hb1
      clear h1 hb1 R0 e0
      go_wp2
      try rw [ek]
      exact ⟨⟨k + 1, Nat.succ_le_of_lt LT.out, rfl, H2.out, Q2.out⟩, msrE LT.out⟩
    · have kl : ¬ (k : Int) < l.length := by omega
      have ek : k = l.length := by omega
      subst ek
      rw [List.take_length, List.append_assoc] at HW
      clear hlt hk
      go_wp2
      go_end0
      exact ⟨rfl, HW.out, HQ.out⟩
set_option maxRecDepth 20000 in
set_option maxHeartbeats 4000000 in
theorem wlLoop (B g : Nat) (bs : List Nat) (l : List LpR) (x : Option Addr) (c : Nat) (w : World) {S : Nat → Prop} (h : Wb B g bs w) (hS : ∀ b, S b → b < B) (ha : RwF 3 (Is lpC) S w x l) (ho : ∀ e ∈ l, LpOk e) (hl : bs.length + 8 + l.length * 24 ≤ 6597069766656) (hn : l.length ≤ 1048576) :
    Calls Tryz.prog 66 #[.pointer (some ⟨g, 0, none⟩), .slice x l.length c, .func (.func 67) #[.pointer (some ⟨g, 0, none⟩)] #[]] w fun e w' => e = .returned (.tuple #[]) ∧ Wb B g (bs ++ lsN lbN l) w' ∧ Bq B w w' := by
  have HB := h.lt
  have H : Hid (Wb B g bs w) := h
  have HA : Hid (∀ V, Bq B w V → RwF 3 (Is lpC) S V x l) := fun V hV => ha.fr (fun q hq => hV.b.cell (hS _ hq))
  have HN : Hid (l.length ≤ 1048576) := hn
  have HS : Hid (∀ b, S b → b < B) := hS
  have OK : Hid (∀ e ∈ l, LpOk e) := ho
  have HC : ∀ k : Nat, ((l.take k).flatMap lbN).length ≤ l.length * 24 := fun k => Nat.le_trans (flat_le _ 24 (l.take k) (fun e he => by rw [lbN_len]; omega)) (Nat.mul_le_mul_right _ (List.length_take_le' k l))
  have HT : Hid (∀ k, (bs ++ nbN l.length ++ (l.take k).flatMap lbN).length ≤ 6597069766656) := fun k => by rw [List.length_append, List.length_append, nbN_len]; have := HC k; omega
  have N0 : Hid (∀ W, Wb B g bs W → Calls Tryz.prog 59 #[.pointer (some ⟨g, 0, none⟩), .int .i64 l.length] W fun e w' => e = .returned (.tuple #[]) ∧ Wb B g (bs ++ nbN l.length) w' ∧ Bq B W w') := fun W hW => numberX B g bs _ W hW (by omega)
  clear h hS ha ho hl hn HC
  have E0 : ∀ (args : Array Value) (W : World), (callFunc 67 args).run Tryz.prog W = .ok (.enter 67 args) W := fun _ _ => by kernel_rfl
  go_enter Tryz.func66, Tryz.ntmps66
  go_wp2_with (go_at_call 59; refine (N0.out _ H.out).mono ?_)
  first | (rintro e w1 ⟨he, h1, hb1⟩; have he' := he) | (rintro e w1 he h1 hb1)
  subst he
  have H1 : Hid (Wb B g (bs ++ nbN l.length) w1) := h1
  have B1 : Hid (Bq B w w1) := hb1
  clear h1 hb1 N0 H
  go_upto_region 2 with fail
  go_loopw [14] (fun i wr => ∃ k : Nat, k ≤ l.length ∧ i = .int .i64 k ∧ Wb B g (bs ++ nbN l.length ++ (l.take k).flatMap lbN) wr ∧ Bq B w wr) (fun i _ => l.length - (intOf i).toNat)
  case atStart => exact ⟨0, Nat.zero_le _, rfl, by rw [List.take_zero, List.flatMap_nil, List.append_nil]; exact H1.out, B1.out⟩
  case round =>
    obtain ⟨k, hk, rfl, hw, hb⟩ := hrel
    have HW : Hid (Wb B g (bs ++ nbN l.length ++ (l.take k).flatMap lbN) wr) := hw
    have HQ : Hid (Bq B w wr) := hb
    clear hw hb H1 B1
    by_cases hlt : k < l.length
    · obtain ⟨a, rfl⟩ := (HA.out wr HQ.out).some (by omega)
      obtain ⟨s, sv, se, sb, rfl, sk⟩ := (HA.out wr HQ.out).el k hlt
      have e0 := sk.c0
      have e1 := sk.cp 0 _ rfl
      have e2 := sk.cp 1 _ rfl
      have SE : Hid (l[k]? = some s) := se
      have LT : Hid (k < l.length) := hlt
      have kl : (k : Int) < l.length := by omega
      have ek : wrap64 ((k : Int) + 1) = (k : Int) + 1 := by have := HN.out; unfold wrap64; omega
      have TK : Hid (bs ++ nbN l.length ++ (l.take (k + 1)).flatMap lbN = bs ++ nbN l.length ++ (l.take k).flatMap lbN ++ lbN s) := by show _ = _; rw [List.take_add_one, se, List.flatMap_append]; simp [List.append_assoc]
      have SO := OK.out s (List.mem_of_getElem? se)
      have za := block_lt_of_cell e0
      obtain ⟨AR, eR⟩ : ∃ AR, AR = wr.alloc (.cells #[.int .i64 s.hd, .int .i64 s.en, .int .i64 s.tm] 99 (0, 0)) := ⟨_, rfl⟩
      have RB : Hid (Below wr.heap.size wr AR) := by rw [eR]; exact (Below.refl _ _).alloc (Nat.le_refl _) _
      have RX : Hid (AR.heap[wr.heap.size]? = some (.cells #[.int .i64 s.hd, .int .i64 s.en, .int .i64 s.tm] 99 (0, 0))) := by rw [eR]; exact heap_alloc_last _ _
      have WR : Hid (Wb B g (bs ++ nbN l.length ++ (l.take k).flatMap lbN) AR) := Wq.below HW.out RB.out
      have QR : Hid (Bq B w AR) := HQ.out.trans (Bq.up RB.out (by have := HQ.out.b.size; omega))
      have R0 : Hid (Calls Tryz.prog 67 #[.pointer (some ⟨g, 0, none⟩), .agg #[.int .i64 s.hd, .int .i64 s.en, .int .i64 s.tm]] AR fun e w' => e = .returned (.tuple #[]) ∧ Wb B g (bs ++ nbN l.length ++ (l.take (k + 1)).flatMap lbN) w' ∧ Bq B AR w') := by
        rw [TK.out]
        have HT' := HT.out k
        have hW := WR.out
        generalize bs ++ nbN l.length ++ (l.take k).flatMap lbN = bz at *
        exact loopX B g bz s AR hW HT'
      clear hlt se sk sb hk SO
      go_upto_region 4 with fail
      rw [← eR]
      clear eR za e0 e1 e2
      have i0 : AR.cell? ⟨wr.heap.size, 0, none⟩ = some (.int .i64 s.hd) := by simp [World.cell?, RX.out]
      have i1 : AR.cell? ⟨wr.heap.size, 1, none⟩ = some (.int .i64 s.en) := by simp [World.cell?, RX.out]
      have i2 : AR.cell? ⟨wr.heap.size, 2, none⟩ = some (.int .i64 s.tm) := by simp [World.cell?, RX.out]
      go_wp2_with fail
      refine (R0.out).mono ?_
      first | (rintro e w2 ⟨he, h1, hb1⟩; have he' := he) | (rintro e w2 he h1 hb1)
      subst he
      have H2 : Hid (Wb B g (bs ++ nbN l.length ++ (l.take (k + 1)).flatMap lbN) w2) := h1
      have Q2 : Hid (Bq B w w2) := QR.out.trans hb1
      clear h1 hb1 R0 i0 i1 i2
      go_wp2
      try rw [ek]
      exact ⟨⟨k + 1, Nat.succ_le_of_lt LT.out, rfl, H2.out, Q2.out⟩, msrE LT.out⟩
    · have kl : ¬ (k : Int) < l.length := by omega
      have ek : k = l.length := by omega
      subst ek
      rw [List.take_length, List.append_assoc] at HW
      clear hlt hk
      go_wp2
      go_end0
      exact ⟨rfl, HW.out, HQ.out⟩
set_option maxRecDepth 20000 in
set_option maxHeartbeats 4000000 in
theorem wlOp (B g : Nat) (bs : List Nat) (l : List OpR) (x : Option Addr) (c : Nat) (w : World) {S : Nat → Prop} (h : Wb B g bs w) (hS : ∀ b, S b → b < B) (ha : RwF 10 (Is opC) S w x l) (ho : ∀ e ∈ l, OpOk e) (hl : bs.length + 8 + l.length * 1048649 ≤ 6597069766656) (hn : l.length ≤ 1048576) :
    Calls Tryz.prog 64 #[.pointer (some ⟨g, 0, none⟩), .slice x l.length c, .func (.func 65) #[.pointer (some ⟨g, 0, none⟩)] #[]] w fun e w' => e = .returned (.tuple #[]) ∧ Wb B g (bs ++ lsN obN l) w' ∧ Bq B w w' := by
  have HB := h.lt
  have H : Hid (Wb B g bs w) := h
  have HA : Hid (∀ V, Bq B w V → RwF 10 (Is opC) S V x l) := fun V hV => ha.fr (fun q hq => hV.b.cell (hS _ hq))
  have HN : Hid (l.length ≤ 1048576) := hn
  have HS : Hid (∀ b, S b → b < B) := hS
  have OK : Hid (∀ e ∈ l, OpOk e) := ho
  have HC : ∀ k : Nat, ((l.take k).flatMap obN).length ≤ l.length * 1048649 := fun k => Nat.le_trans (flat_le _ 1048649 (l.take k) (fun e he => by rw [obN_len]; have q1 : e.vs.size ≤ 1048576 := (ho e (List.mem_of_mem_take he)).2.2.2.2.2.2.2.2.2; omega)) (Nat.mul_le_mul_right _ (List.length_take_le' k l))
  have HT : Hid (∀ k, (bs ++ nbN l.length ++ (l.take k).flatMap obN).length ≤ 6597069766656) := fun k => by rw [List.length_append, List.length_append, nbN_len]; have := HC k; omega
  have N0 : Hid (∀ W, Wb B g bs W → Calls Tryz.prog 59 #[.pointer (some ⟨g, 0, none⟩), .int .i64 l.length] W fun e w' => e = .returned (.tuple #[]) ∧ Wb B g (bs ++ nbN l.length) w' ∧ Bq B W w') := fun W hW => numberX B g bs _ W hW (by omega)
  clear h hS ha ho hl hn HC
  have E0 : ∀ (args : Array Value) (W : World), (callFunc 65 args).run Tryz.prog W = .ok (.enter 65 args) W := fun _ _ => by kernel_rfl
  go_enter Tryz.func64, Tryz.ntmps64
  go_wp2_with (go_at_call 59; refine (N0.out _ H.out).mono ?_)
  first | (rintro e w1 ⟨he, h1, hb1⟩; have he' := he) | (rintro e w1 he h1 hb1)
  subst he
  have H1 : Hid (Wb B g (bs ++ nbN l.length) w1) := h1
  have B1 : Hid (Bq B w w1) := hb1
  clear h1 hb1 N0 H
  go_upto_region 2 with fail
  go_loopw [14] (fun i wr => ∃ k : Nat, k ≤ l.length ∧ i = .int .i64 k ∧ Wb B g (bs ++ nbN l.length ++ (l.take k).flatMap obN) wr ∧ Bq B w wr) (fun i _ => l.length - (intOf i).toNat)
  case atStart => exact ⟨0, Nat.zero_le _, rfl, by rw [List.take_zero, List.flatMap_nil, List.append_nil]; exact H1.out, B1.out⟩
  case round =>
    obtain ⟨k, hk, rfl, hw, hb⟩ := hrel
    have HW : Hid (Wb B g (bs ++ nbN l.length ++ (l.take k).flatMap obN) wr) := hw
    have HQ : Hid (Bq B w wr) := hb
    clear hw hb H1 B1
    by_cases hlt : k < l.length
    · obtain ⟨a, rfl⟩ := (HA.out wr HQ.out).some (by omega)
      obtain ⟨s, sv, se, sb, rfl, sk⟩ := (HA.out wr HQ.out).el k hlt
      have e0 := sk.c0
      have e1 := sk.cp 0 _ rfl
      have e2 := sk.cp 1 _ rfl
      have e3 := sk.cp 2 _ rfl
      have e4 := sk.cp 3 _ rfl
      have e5 := sk.cp 4 _ rfl
      have e6 := sk.cp 5 _ rfl
      have e7 := sk.cp 6 _ rfl
      have e8 := sk.cp 7 _ rfl
      have e9 := sk.cp 8 _ rfl
      have SE : Hid (l[k]? = some s) := se
      have LT : Hid (k < l.length) := hlt
      have kl : (k : Int) < l.length := by omega
      have ek : wrap64 ((k : Int) + 1) = (k : Int) + 1 := by have := HN.out; unfold wrap64; omega
      have TK : Hid (bs ++ nbN l.length ++ (l.take (k + 1)).flatMap obN = bs ++ nbN l.length ++ (l.take k).flatMap obN ++ obN s) := by show _ = _; rw [List.take_add_one, se, List.flatMap_append]; simp [List.append_assoc]
      have SO := OK.out s (List.mem_of_getElem? se)
      have za := block_lt_of_cell e0
      obtain ⟨AR, eR⟩ : ∃ AR, AR = wr.alloc (.cells #[.int .i64 s.cd, .int .i64 s.a, .int .i64 s.b, .int .i64 s.c, .int .i64 s.d, .int .i64 s.lo, .int .i64 s.hi, .int .u8 s.vk, .int .u64 s.vb, .string s.vs] 86 (0, 0)) := ⟨_, rfl⟩
      have RB : Hid (Below wr.heap.size wr AR) := by rw [eR]; exact (Below.refl _ _).alloc (Nat.le_refl _) _
      have RX : Hid (AR.heap[wr.heap.size]? = some (.cells #[.int .i64 s.cd, .int .i64 s.a, .int .i64 s.b, .int .i64 s.c, .int .i64 s.d, .int .i64 s.lo, .int .i64 s.hi, .int .u8 s.vk, .int .u64 s.vb, .string s.vs] 86 (0, 0))) := by rw [eR]; exact heap_alloc_last _ _
      have WR : Hid (Wb B g (bs ++ nbN l.length ++ (l.take k).flatMap obN) AR) := Wq.below HW.out RB.out
      have QR : Hid (Bq B w AR) := HQ.out.trans (Bq.up RB.out (by have := HQ.out.b.size; omega))
      have R0 : Hid (Calls Tryz.prog 65 #[.pointer (some ⟨g, 0, none⟩), OpV s] AR fun e w' => e = .returned (.tuple #[]) ∧ Wb B g (bs ++ nbN l.length ++ (l.take (k + 1)).flatMap obN) w' ∧ Bq B AR w') := by
        rw [TK.out]
        have HT' := HT.out k
        have hW := WR.out
        generalize bs ++ nbN l.length ++ (l.take k).flatMap obN = bz at *
        exact opX B g bz s AR hW HT' (wf_u8 SO.2.2.2.2.2.2.2.1) SO.2.2.2.2.2.2.2.2.2
      clear hlt se sk sb hk SO
      go_upto_region 4 with fail
      rw [← eR]
      clear eR za e0 e1 e2 e3 e4 e5 e6 e7 e8 e9
      have i0 : AR.cell? ⟨wr.heap.size, 0, none⟩ = some (.int .i64 s.cd) := by simp [World.cell?, RX.out]
      have i1 : AR.cell? ⟨wr.heap.size, 1, none⟩ = some (.int .i64 s.a) := by simp [World.cell?, RX.out]
      have i2 : AR.cell? ⟨wr.heap.size, 2, none⟩ = some (.int .i64 s.b) := by simp [World.cell?, RX.out]
      have i3 : AR.cell? ⟨wr.heap.size, 3, none⟩ = some (.int .i64 s.c) := by simp [World.cell?, RX.out]
      have i4 : AR.cell? ⟨wr.heap.size, 4, none⟩ = some (.int .i64 s.d) := by simp [World.cell?, RX.out]
      have i5 : AR.cell? ⟨wr.heap.size, 5, none⟩ = some (.int .i64 s.lo) := by simp [World.cell?, RX.out]
      have i6 : AR.cell? ⟨wr.heap.size, 6, none⟩ = some (.int .i64 s.hi) := by simp [World.cell?, RX.out]
      have i7 : AR.cell? ⟨wr.heap.size, 7, none⟩ = some (.int .u8 s.vk) := by simp [World.cell?, RX.out]
      have i8 : AR.cell? ⟨wr.heap.size, 8, none⟩ = some (.int .u64 s.vb) := by simp [World.cell?, RX.out]
      have i9 : AR.cell? ⟨wr.heap.size, 9, none⟩ = some (.string s.vs) := by simp [World.cell?, RX.out]
      go_wp2_with fail
      refine (R0.out).mono ?_
      first | (rintro e w2 ⟨he, h1, hb1⟩; have he' := he) | (rintro e w2 he h1 hb1)
      subst he
      have H2 : Hid (Wb B g (bs ++ nbN l.length ++ (l.take (k + 1)).flatMap obN) w2) := h1
      have Q2 : Hid (Bq B w w2) := QR.out.trans hb1
      clear h1 hb1 R0 i0 i1 i2 i3 i4 i5 i6 i7 i8 i9
      go_wp2
      try rw [ek]
      exact ⟨⟨k + 1, Nat.succ_le_of_lt LT.out, rfl, H2.out, Q2.out⟩, msrE LT.out⟩
    · have kl : ¬ (k : Int) < l.length := by omega
      have ek : k = l.length := by omega
      subst ek
      rw [List.take_length, List.append_assoc] at HW
      clear hlt hk
      go_wp2
      go_end0
      exact ⟨rfl, HW.out, HQ.out⟩
set_option maxRecDepth 20000 in
set_option maxHeartbeats 4000000 in
theorem wlCell (B g : Nat) (bs : List Nat) (l : List CeR) (x : Option Addr) (c : Nat) (w : World) {S : Nat → Prop} (h : Wb B g bs w) (hS : ∀ b, S b → b < B) (ha : RwF 11 (Is ceC) S w x l) (ho : ∀ e ∈ l, CeOk e) (hl : bs.length + 8 + l.length * 2097205 ≤ 6597069766656) (hn : l.length ≤ 1048576) :
    Calls Tryz.prog 28 #[.pointer (some ⟨g, 0, none⟩), .slice x l.length c, .func (.func 29) #[.pointer (some ⟨g, 0, none⟩)] #[]] w fun e w' => e = .returned (.tuple #[]) ∧ Wb B g (bs ++ lsN cbN l) w' ∧ Bq B w w' := by
  have HB := h.lt
  have H : Hid (Wb B g bs w) := h
  have HA : Hid (∀ V, Bq B w V → RwF 11 (Is ceC) S V x l) := fun V hV => ha.fr (fun q hq => hV.b.cell (hS _ hq))
  have HN : Hid (l.length ≤ 1048576) := hn
  have HS : Hid (∀ b, S b → b < B) := hS
  have OK : Hid (∀ e ∈ l, CeOk e) := ho
  have HC : ∀ k : Nat, ((l.take k).flatMap cbN).length ≤ l.length * 2097205 := fun k => Nat.le_trans (flat_le _ 2097205 (l.take k) (fun e he => by rw [cbN_len]; have q := ho e (List.mem_of_mem_take he); have q1 : e.is.size ≤ 1048576 := q.2.2.2.2.2.2.1; have q2 : e.ad.size ≤ 1048576 := q.2.2.2.2.2.2.2.2; omega)) (Nat.mul_le_mul_right _ (List.length_take_le' k l))
  have HT : Hid (∀ k, (bs ++ nbN l.length ++ (l.take k).flatMap cbN).length ≤ 6597069766656) := fun k => by rw [List.length_append, List.length_append, nbN_len]; have := HC k; omega
  have N0 : Hid (∀ W, Wb B g bs W → Calls Tryz.prog 59 #[.pointer (some ⟨g, 0, none⟩), .int .i64 l.length] W fun e w' => e = .returned (.tuple #[]) ∧ Wb B g (bs ++ nbN l.length) w' ∧ Bq B W w') := fun W hW => numberX B g bs _ W hW (by omega)
  clear h hS ha ho hl hn HC
  have E0 : ∀ (args : Array Value) (W : World), (callFunc 29 args).run Tryz.prog W = .ok (.enter 29 args) W := fun _ _ => by kernel_rfl
  go_enter Tryz.func28, Tryz.ntmps28
  go_wp2_with (go_at_call 59; refine (N0.out _ H.out).mono ?_)
  first | (rintro e w1 ⟨he, h1, hb1⟩; have he' := he) | (rintro e w1 he h1 hb1)
  subst he
  have H1 : Hid (Wb B g (bs ++ nbN l.length) w1) := h1
  have B1 : Hid (Bq B w w1) := hb1
  clear h1 hb1 N0 H
  go_upto_region 2 with fail
  go_loopw [14] (fun i wr => ∃ k : Nat, k ≤ l.length ∧ i = .int .i64 k ∧ Wb B g (bs ++ nbN l.length ++ (l.take k).flatMap cbN) wr ∧ Bq B w wr) (fun i _ => l.length - (intOf i).toNat)
  case atStart => exact ⟨0, Nat.zero_le _, rfl, by rw [List.take_zero, List.flatMap_nil, List.append_nil]; exact H1.out, B1.out⟩
  case round =>
    obtain ⟨k, hk, rfl, hw, hb⟩ := hrel
    have HW : Hid (Wb B g (bs ++ nbN l.length ++ (l.take k).flatMap cbN) wr) := hw
    have HQ : Hid (Bq B w wr) := hb
    clear hw hb H1 B1
    by_cases hlt : k < l.length
    · obtain ⟨a, rfl⟩ := (HA.out wr HQ.out).some (by omega)
      obtain ⟨s, sv, se, sb, rfl, sk⟩ := (HA.out wr HQ.out).el k hlt
      have e0 := sk.c0
      have e1 := sk.cp 0 _ rfl
      have e2 := sk.cp 1 _ rfl
      have e3 := sk.cp 2 _ rfl
      have e4 := sk.cp 3 _ rfl
      have e5 := sk.cp 4 _ rfl
      have e6 := sk.cp 5 _ rfl
      have e7 := sk.cp 6 _ rfl
      have e8 := sk.cp 7 _ rfl
      have e9 := sk.cp 8 _ rfl
      have e10 := sk.cp 9 _ rfl
      have SE : Hid (l[k]? = some s) := se
      have LT : Hid (k < l.length) := hlt
      have kl : (k : Int) < l.length := by omega
      have ek : wrap64 ((k : Int) + 1) = (k : Int) + 1 := by have := HN.out; unfold wrap64; omega
      have TK : Hid (bs ++ nbN l.length ++ (l.take (k + 1)).flatMap cbN = bs ++ nbN l.length ++ (l.take k).flatMap cbN ++ cbN s) := by show _ = _; rw [List.take_add_one, se, List.flatMap_append]; simp [List.append_assoc]
      have SO := OK.out s (List.mem_of_getElem? se)
      have za := block_lt_of_cell e0
      obtain ⟨AR, eR⟩ : ∃ AR, AR = wr.alloc (.cells #[.int .u8 s.kd, .bool s.sb, .int .i64 s.lo, .int .i64 s.hi, .int .i64 s.mx, .int .u8 s.ik, .int .u64 s.ib, .string s.is, .bool s.kp, .int .i64 s.dr, .string s.ad] 42 (0, 0)) := ⟨_, rfl⟩
      have RB : Hid (Below wr.heap.size wr AR) := by rw [eR]; exact (Below.refl _ _).alloc (Nat.le_refl _) _
      have RX : Hid (AR.heap[wr.heap.size]? = some (.cells #[.int .u8 s.kd, .bool s.sb, .int .i64 s.lo, .int .i64 s.hi, .int .i64 s.mx, .int .u8 s.ik, .int .u64 s.ib, .string s.is, .bool s.kp, .int .i64 s.dr, .string s.ad] 42 (0, 0))) := by rw [eR]; exact heap_alloc_last _ _
      have WR : Hid (Wb B g (bs ++ nbN l.length ++ (l.take k).flatMap cbN) AR) := Wq.below HW.out RB.out
      have QR : Hid (Bq B w AR) := HQ.out.trans (Bq.up RB.out (by have := HQ.out.b.size; omega))
      have R0 : Hid (Calls Tryz.prog 29 #[.pointer (some ⟨g, 0, none⟩), CeV s] AR fun e w' => e = .returned (.tuple #[]) ∧ Wb B g (bs ++ nbN l.length ++ (l.take (k + 1)).flatMap cbN) w' ∧ Bq B AR w') := by
        rw [TK.out]
        have HT' := HT.out k
        have hW := WR.out
        generalize bs ++ nbN l.length ++ (l.take k).flatMap cbN = bz at *
        exact cellX B g bz s AR hW HT' (wf_u8 SO.1) (wf_u8 SO.2.2.2.2.1) SO.2.2.2.2.2.2.1 SO.2.2.2.2.2.2.2.2
      clear hlt se sk sb hk SO
      go_upto_region 4 with fail
      rw [← eR]
      clear eR za e0 e1 e2 e3 e4 e5 e6 e7 e8 e9 e10
      have i0 : AR.cell? ⟨wr.heap.size, 0, none⟩ = some (.int .u8 s.kd) := by simp [World.cell?, RX.out]
      have i1 : AR.cell? ⟨wr.heap.size, 1, none⟩ = some (.bool s.sb) := by simp [World.cell?, RX.out]
      have i2 : AR.cell? ⟨wr.heap.size, 2, none⟩ = some (.int .i64 s.lo) := by simp [World.cell?, RX.out]
      have i3 : AR.cell? ⟨wr.heap.size, 3, none⟩ = some (.int .i64 s.hi) := by simp [World.cell?, RX.out]
      have i4 : AR.cell? ⟨wr.heap.size, 4, none⟩ = some (.int .i64 s.mx) := by simp [World.cell?, RX.out]
      have i5 : AR.cell? ⟨wr.heap.size, 5, none⟩ = some (.int .u8 s.ik) := by simp [World.cell?, RX.out]
      have i6 : AR.cell? ⟨wr.heap.size, 6, none⟩ = some (.int .u64 s.ib) := by simp [World.cell?, RX.out]
      have i7 : AR.cell? ⟨wr.heap.size, 7, none⟩ = some (.string s.is) := by simp [World.cell?, RX.out]
      have i8 : AR.cell? ⟨wr.heap.size, 8, none⟩ = some (.bool s.kp) := by simp [World.cell?, RX.out]
      have i9 : AR.cell? ⟨wr.heap.size, 9, none⟩ = some (.int .i64 s.dr) := by simp [World.cell?, RX.out]
      have i10 : AR.cell? ⟨wr.heap.size, 10, none⟩ = some (.string s.ad) := by simp [World.cell?, RX.out]
      go_wp2_with fail
      refine (R0.out).mono ?_
      first | (rintro e w2 ⟨he, h1, hb1⟩; have he' := he) | (rintro e w2 he h1 hb1)
      subst he
      have H2 : Hid (Wb B g (bs ++ nbN l.length ++ (l.take (k + 1)).flatMap cbN) w2) := h1
      have Q2 : Hid (Bq B w w2) := QR.out.trans hb1
      clear h1 hb1 R0 i0 i1 i2 i3 i4 i5 i6 i7 i8 i9 i10
      go_wp2
      try rw [ek]
      exact ⟨⟨k + 1, Nat.succ_le_of_lt LT.out, rfl, H2.out, Q2.out⟩, msrE LT.out⟩
    · have kl : ¬ (k : Int) < l.length := by omega
      have ek : k = l.length := by omega
      subst ek
      rw [List.take_length, List.append_assoc] at HW
      clear hlt hk
      go_wp2
      go_end0
      exact ⟨rfl, HW.out, HQ.out⟩
end Go.Proofs.YtpcjnhffpkpchaaGreat
namespace Go.Proofs.YtpcjnhffpkpchaaGreat
set_option linter.unusedVariables false
open Go.RowKit
def flbN (f : FlR) : List Nat := tbN f.nm ++ nsN [f.wh, f.ce, f.ba, f.rg, f.sl] ++ lsN obN f.os ++ lsN lbN f.ls
def jbN (j : JbR) : List Nat := tbN j.nm ++ nsN [j.iv, j.sg, j.pr] ++ lsN nbN j.cs ++ lsN nbN j.bs ++ nbN j.bd
theorem lsN_le {α : Type} (f : α → List Nat) (c : Nat) (l : List α) (h : ∀ e ∈ l, (f e).length ≤ c) : (lsN f l).length ≤ 8 + l.length * c := by
  unfold lsN
  rw [List.length_append, nbN_len]
  have := flat_le f c l h
  omega
theorem lsO_le {l : List OpR} (h : ∀ o ∈ l, OpOk o) : (lsN obN l).length ≤ 8 + l.length * 1048649 := lsN_le _ _ _ (fun e he => by rw [obN_len]; have q1 : e.vs.size ≤ 1048576 := (h e he).2.2.2.2.2.2.2.2.2; omega)
theorem lsL_le (l : List LpR) : (lsN lbN l).length ≤ 8 + l.length * 24 := lsN_le _ _ _ (fun e he => by rw [lbN_len]; omega)
theorem lsI_le (l : List Int) : (lsN nbN l).length ≤ 8 + l.length * 8 := lsN_le _ _ _ (fun e he => by rw [nbN_len]; omega)
def FlS (f : FlR) : Prop := FlOk f ∧ f.os.length ≤ 16384 ∧ f.ls.length ≤ 16384
theorem flbN_len {f : FlR} (h : FlS f) : (flbN f).length ≤ 17200000000 := by
  obtain ⟨ok, h1, h2⟩ := h
  have q0 : f.nm.size ≤ 1048576 := ok.1
  have q1 := lsO_le ok.2.2.2.2.2.2.1
  have q2 := lsL_le f.ls
  unfold flbN
  rw [List.length_append, List.length_append, List.length_append, tbN_len, nsN_len]
  simp only [List.length_cons, List.length_nil]
  omega
theorem jbN_len {j : JbR} (h : JbOk j) : (jbN j).length ≤ 18000000 := by
  have q0 : j.nm.size ≤ 1048576 := h.1
  have q1 := lsI_le j.cs
  have q2 := lsI_le j.bs
  have q3 := h.2.2.2.2.2.2.2.1
  have q4 := h.2.2.2.2.2.2.2.2
  unfold jbN
  rw [List.length_append, List.length_append, List.length_append, List.length_append, tbN_len, nsN_len, nbN_len]
  simp only [List.length_cons, List.length_nil]
  omega
set_option maxRecDepth 20000 in
set_option maxHeartbeats 4000000 in
theorem codeX (B g : Nat) (bs : List Nat) (f : FlR) (x1 x2 : Option Addr) (p1 p2 : Nat) {S : Nat → Prop} (w : World) (h : Wb B g bs w) (hl : bs.length ≤ 6000000000000) (hS : ∀ b, S b → b < B) (hq : FlQ S w f x1 x2) (ho : FlS f) :
    Calls Tryz.prog 31 #[.pointer (some ⟨g, 0, none⟩), FlV f x1 x2 p1 p2] w fun e w' => e = .returned (.tuple #[]) ∧ Wb B g (bs ++ flbN f) w' ∧ Bq B w w' := by
  have HB := h.lt
  have R0 : Hid (∀ W, Bq B w W → Wb B g (bs) W → Calls Tryz.prog 27 #[.pointer (some ⟨g, 0, none⟩), .string f.nm] W fun e w' => e = .returned (.tuple #[]) ∧ Wb B g (bs ++ tbN f.nm) w' ∧ Bq B W w') := fun W hQ hW => textX B g (bs) f.nm W hW (by omega) ho.1.1
  have R1 : Hid (∀ W, Bq B w W → Wb B g (bs ++ tbN f.nm) W → Calls Tryz.prog 62 #[.pointer (some ⟨g, 0, none⟩), .slice (some ⟨W.heap.size, 0, none⟩) 5 5] (W.alloc (.cells #[.int .i64 f.wh, .int .i64 f.ce, .int .i64 f.ba, .int .i64 f.rg, .int .i64 f.sl] 3 (0, 0))) fun e w' => e = .returned (.tuple #[]) ∧ Wb B g (bs ++ tbN f.nm ++ nsN [f.wh, f.ce, f.ba, f.rg, f.sl]) w' ∧ Bq B W w') := fun W hQ hW => by
    have q := numbersX B g (bs ++ tbN f.nm) [f.wh, f.ce, f.ba, f.rg, f.sl] W.heap.size 5 (0, 0) (W.alloc (.cells #[.int .i64 f.wh, .int .i64 f.ce, .int .i64 f.ba, .int .i64 f.rg, .int .i64 f.sl] 3 (0, 0))) (Wq.below hW ((Below.refl _ _).alloc (Nat.le_refl _) _)) (heap_alloc_last _ _) (by (repeat first | rw [List.length_append] | rw [nsN_len] | rw [nbN_len] | rw [tbN_len] | rw [List.length_cons] | rw [List.length_nil]); have z1 := lsO_le ho.1.2.2.2.2.2.2.1; have z2 := lsL_le f.ls; have z3 := ho.2.1; have z4 := ho.2.2; have z5 : f.nm.size ≤ 1048576 := ho.1.1; omega) (by simp)
    have z := hW.lt
    refine q.mono ?_
    rintro e w' ⟨he, h1, h2⟩
    exact ⟨he, by exact h1, (Bq.up ((Below.refl _ _).alloc (Nat.le_refl _) _) (by omega)).trans h2⟩
  have R2 : Hid (∀ W, Bq B w W → Wb B g (bs ++ tbN f.nm ++ nsN [f.wh, f.ce, f.ba, f.rg, f.sl]) W → Calls Tryz.prog 64 #[.pointer (some ⟨g, 0, none⟩), .slice x1 f.os.length p1, .func (.func 65) #[.pointer (some ⟨g, 0, none⟩)] #[]] W fun e w' => e = .returned (.tuple #[]) ∧ Wb B g (bs ++ tbN f.nm ++ nsN [f.wh, f.ce, f.ba, f.rg, f.sl] ++ lsN obN f.os) w' ∧ Bq B W w') := fun W hQ hW => wlOp B g (bs ++ tbN f.nm ++ nsN [f.wh, f.ce, f.ba, f.rg, f.sl]) f.os x1 p1 W hW hS (hq.1.fr (fun q hqq => hQ.b.cell (hS _ hqq))) ho.1.2.2.2.2.2.2.1 (by (repeat first | rw [List.length_append] | rw [nsN_len] | rw [nbN_len] | rw [tbN_len] | rw [List.length_cons] | rw [List.length_nil]); have z1 := lsO_le ho.1.2.2.2.2.2.2.1; have z2 := lsL_le f.ls; have z3 := ho.2.1; have z4 := ho.2.2; have z5 : f.nm.size ≤ 1048576 := ho.1.1; omega) (by have := ho.2.1; omega)
  have R3 : Hid (∀ W, Bq B w W → Wb B g (bs ++ tbN f.nm ++ nsN [f.wh, f.ce, f.ba, f.rg, f.sl] ++ lsN obN f.os) W → Calls Tryz.prog 66 #[.pointer (some ⟨g, 0, none⟩), .slice x2 f.ls.length p2, .func (.func 67) #[.pointer (some ⟨g, 0, none⟩)] #[]] W fun e w' => e = .returned (.tuple #[]) ∧ Wb B g (bs ++ flbN f) w' ∧ Bq B W w') := fun W hQ hW => by
    have q := wlLoop B g (bs ++ tbN f.nm ++ nsN [f.wh, f.ce, f.ba, f.rg, f.sl] ++ lsN obN f.os) f.ls x2 p2 W hW hS (hq.2.fr (fun q hqq => hQ.b.cell (hS _ hqq))) ho.1.2.2.2.2.2.2.2.1 (by (repeat first | rw [List.length_append] | rw [nsN_len] | rw [nbN_len] | rw [tbN_len] | rw [List.length_cons] | rw [List.length_nil]); have z1 := lsO_le ho.1.2.2.2.2.2.2.1; have z2 := lsL_le f.ls; have z3 := ho.2.1; have z4 := ho.2.2; have z5 : f.nm.size ≤ 1048576 := ho.1.1; omega) (by have := ho.2.2; omega)
    refine q.mono ?_
    rintro e w' ⟨he, h1, h2⟩
    exact ⟨he, by simpa only [flbN, List.append_assoc] using h1, h2⟩
  obtain ⟨AW, eW⟩ : ∃ AW, AW = w.alloc (.cells #[.string f.nm, .int .i64 f.wh, .int .i64 f.ce, .int .i64 f.ba, .int .i64 f.rg, .int .i64 f.sl, .slice x1 f.os.length p1, .slice x2 f.ls.length p2] 64 (0, 0)) := ⟨_, rfl⟩
  have AX : Hid (AW.heap[w.heap.size]? = some (.cells #[.string f.nm, .int .i64 f.wh, .int .i64 f.ce, .int .i64 f.ba, .int .i64 f.rg, .int .i64 f.sl, .slice x1 f.os.length p1, .slice x2 f.ls.length p2] 64 (0, 0))) := by rw [eW]; exact heap_alloc_last _ _
  have AB : Hid (Below w.heap.size w AW) := by rw [eW]; exact (Below.refl _ _).alloc (Nat.le_refl _) _
  have Q0 : Hid (Bq B AW AW) := Bq.refl _ _
  have QA : Hid (Bq B w AW) := Bq.up AB.out (by omega)
  have H0 : Hid (Wb B g bs AW) := Wq.below h AB.out
  clear h hl hS hq ho
  go_enter Tryz.func31, Tryz.ntmps31
  go_upto_region 1 with fail
  rw [← eW]
  clear eW
  have X := Q0.out.k _ _ _ _ AX.out (by decide) (by decide)
  have i0 : AW.cell? ⟨w.heap.size, 0, none⟩ = some (.string f.nm) := by simp [World.cell?, X]
  clear X
  go_wp2_with (go_at_call 27; refine (R0.out _ (QA.out.trans Q0.out) H0.out).mono ?_)
  first | (rintro e w1 ⟨he, h1, hb1⟩; have he' := he) | (rintro e w1 he h1 hb1)
  subst he
  have H1 : Hid (Wb B g (bs ++ tbN f.nm) w1) := h1
  have Q1 : Hid (Bq B AW w1) := Q0.out.trans hb1
  clear h1 hb1 i0
  have X := Q1.out.k _ _ _ _ AX.out (by decide) (by decide)
  have i1 : w1.cell? ⟨w.heap.size, 1, none⟩ = some (.int .i64 f.wh) := by simp [World.cell?, X]
  have i2 : w1.cell? ⟨w.heap.size, 2, none⟩ = some (.int .i64 f.ce) := by simp [World.cell?, X]
  have i3 : w1.cell? ⟨w.heap.size, 3, none⟩ = some (.int .i64 f.ba) := by simp [World.cell?, X]
  have i4 : w1.cell? ⟨w.heap.size, 4, none⟩ = some (.int .i64 f.rg) := by simp [World.cell?, X]
  have i5 : w1.cell? ⟨w.heap.size, 5, none⟩ = some (.int .i64 f.sl) := by simp [World.cell?, X]
  clear X
  go_wp2_with (go_at_call 62; refine (R1.out _ (QA.out.trans Q1.out) H1.out).mono ?_)
  first | (rintro e w2 ⟨he, h1, hb1⟩; have he' := he) | (rintro e w2 he h1 hb1)
  subst he
  have H2 : Hid (Wb B g (bs ++ tbN f.nm ++ nsN [f.wh, f.ce, f.ba, f.rg, f.sl]) w2) := h1
  have Q2 : Hid (Bq B AW w2) := Q1.out.trans hb1
  clear h1 hb1 i1 i2 i3 i4 i5
  have X := Q2.out.k _ _ _ _ AX.out (by decide) (by decide)
  have i6 : w2.cell? ⟨w.heap.size, 6, none⟩ = some (.slice x1 f.os.length p1) := by simp [World.cell?, X]
  clear X
  go_wp2_with (go_at_call 64; refine (R2.out _ (QA.out.trans Q2.out) H2.out).mono ?_)
  first | (rintro e w3 ⟨he, h1, hb1⟩; have he' := he) | (rintro e w3 he h1 hb1)
  subst he
  have H3 : Hid (Wb B g (bs ++ tbN f.nm ++ nsN [f.wh, f.ce, f.ba, f.rg, f.sl] ++ lsN obN f.os) w3) := h1
  have Q3 : Hid (Bq B AW w3) := Q2.out.trans hb1
  clear h1 hb1 i6
  have X := Q3.out.k _ _ _ _ AX.out (by decide) (by decide)
  have i7 : w3.cell? ⟨w.heap.size, 7, none⟩ = some (.slice x2 f.ls.length p2) := by simp [World.cell?, X]
  clear X
  go_wp2_with (go_at_call 66; refine (R3.out _ (QA.out.trans Q3.out) H3.out).mono ?_)
  first | (rintro e w4 ⟨he, h1, hb1⟩; have he' := he) | (rintro e w4 he h1 hb1)
  subst he
  have H4 : Hid (Wb B g (bs ++ flbN f) w4) := h1
  have Q4 : Hid (Bq B AW w4) := Q3.out.trans hb1
  clear h1 hb1 i7
  go_wp2
  go_end0
  exact ⟨rfl, H4.out, QA.out.trans Q4.out⟩
set_option maxRecDepth 20000 in
set_option maxHeartbeats 4000000 in
theorem jobX (B g : Nat) (bs : List Nat) (j : JbR) (x1 x2 : Option Addr) (p1 p2 : Nat) {S : Nat → Prop} (w : World) (h : Wb B g bs w) (hl : bs.length ≤ 6000000000000) (hS : ∀ b, S b → b < B) (hq : JbQ S w j x1 x2) (ho : JbOk j) :
    Calls Tryz.prog 33 #[.pointer (some ⟨g, 0, none⟩), .agg #[.string j.nm, .int .i64 j.iv, .int .i64 j.sg, .int .i64 j.pr, .slice x1 j.cs.length p1, .slice x2 j.bs.length p2, .int .i64 j.bd]] w fun e w' => e = .returned (.tuple #[]) ∧ Wb B g (bs ++ jbN j) w' ∧ Bq B w w' := by
  have HB := h.lt
  have R0 : Hid (∀ W, Bq B w W → Wb B g (bs) W → Calls Tryz.prog 27 #[.pointer (some ⟨g, 0, none⟩), .string j.nm] W fun e w' => e = .returned (.tuple #[]) ∧ Wb B g (bs ++ tbN j.nm) w' ∧ Bq B W w') := fun W hQ hW => textX B g (bs) j.nm W hW (by omega) ho.1
  have R1 : Hid (∀ W, Bq B w W → Wb B g (bs ++ tbN j.nm) W → Calls Tryz.prog 62 #[.pointer (some ⟨g, 0, none⟩), .slice (some ⟨W.heap.size, 0, none⟩) 3 3] (W.alloc (.cells #[.int .i64 j.iv, .int .i64 j.sg, .int .i64 j.pr] 3 (0, 0))) fun e w' => e = .returned (.tuple #[]) ∧ Wb B g (bs ++ tbN j.nm ++ nsN [j.iv, j.sg, j.pr]) w' ∧ Bq B W w') := fun W hQ hW => by
    have q := numbersX B g (bs ++ tbN j.nm) [j.iv, j.sg, j.pr] W.heap.size 3 (0, 0) (W.alloc (.cells #[.int .i64 j.iv, .int .i64 j.sg, .int .i64 j.pr] 3 (0, 0))) (Wq.below hW ((Below.refl _ _).alloc (Nat.le_refl _) _)) (heap_alloc_last _ _) (by (repeat first | rw [List.length_append] | rw [nsN_len] | rw [nbN_len] | rw [tbN_len] | rw [List.length_cons] | rw [List.length_nil]); have z1 := lsI_le j.cs; have z2 := lsI_le j.bs; have z3 := ho.2.2.2.2.2.2.2.1; have z4 := ho.2.2.2.2.2.2.2.2; have z5 : j.nm.size ≤ 1048576 := ho.1; omega) (by simp)
    have z := hW.lt
    refine q.mono ?_
    rintro e w' ⟨he, h1, h2⟩
    exact ⟨he, by exact h1, (Bq.up ((Below.refl _ _).alloc (Nat.le_refl _) _) (by omega)).trans h2⟩
  have R2 : Hid (∀ W, Bq B w W → Wb B g (bs ++ tbN j.nm ++ nsN [j.iv, j.sg, j.pr]) W → Calls Tryz.prog 68 #[.pointer (some ⟨g, 0, none⟩), .slice x1 j.cs.length p1, .func (.func 59) #[.pointer (some ⟨g, 0, none⟩)] #[]] W fun e w' => e = .returned (.tuple #[]) ∧ Wb B g (bs ++ tbN j.nm ++ nsN [j.iv, j.sg, j.pr] ++ lsN nbN j.cs) w' ∧ Bq B W w') := fun W hQ hW => wlInt B g (bs ++ tbN j.nm ++ nsN [j.iv, j.sg, j.pr]) j.cs x1 p1 W hW hS (hq.1.fr (fun q hqq => hQ.b.cell (hS _ hqq))) (fun _ _ => trivial) (by (repeat first | rw [List.length_append] | rw [nsN_len] | rw [nbN_len] | rw [tbN_len] | rw [List.length_cons] | rw [List.length_nil]); have z1 := lsI_le j.cs; have z2 := lsI_le j.bs; have z3 := ho.2.2.2.2.2.2.2.1; have z4 := ho.2.2.2.2.2.2.2.2; have z5 : j.nm.size ≤ 1048576 := ho.1; omega) (ho.2.2.2.2.2.2.2.1)
  have R3 : Hid (∀ W, Bq B w W → Wb B g (bs ++ tbN j.nm ++ nsN [j.iv, j.sg, j.pr] ++ lsN nbN j.cs) W → Calls Tryz.prog 68 #[.pointer (some ⟨g, 0, none⟩), .slice x2 j.bs.length p2, .func (.func 59) #[.pointer (some ⟨g, 0, none⟩)] #[]] W fun e w' => e = .returned (.tuple #[]) ∧ Wb B g (bs ++ tbN j.nm ++ nsN [j.iv, j.sg, j.pr] ++ lsN nbN j.cs ++ lsN nbN j.bs) w' ∧ Bq B W w') := fun W hQ hW => wlInt B g (bs ++ tbN j.nm ++ nsN [j.iv, j.sg, j.pr] ++ lsN nbN j.cs) j.bs x2 p2 W hW hS (hq.2.fr (fun q hqq => hQ.b.cell (hS _ hqq))) (fun _ _ => trivial) (by (repeat first | rw [List.length_append] | rw [nsN_len] | rw [nbN_len] | rw [tbN_len] | rw [List.length_cons] | rw [List.length_nil]); have z1 := lsI_le j.cs; have z2 := lsI_le j.bs; have z3 := ho.2.2.2.2.2.2.2.1; have z4 := ho.2.2.2.2.2.2.2.2; have z5 : j.nm.size ≤ 1048576 := ho.1; omega) (ho.2.2.2.2.2.2.2.2)
  have R4 : Hid (∀ W, Bq B w W → Wb B g (bs ++ tbN j.nm ++ nsN [j.iv, j.sg, j.pr] ++ lsN nbN j.cs ++ lsN nbN j.bs) W → Calls Tryz.prog 59 #[.pointer (some ⟨g, 0, none⟩), .int .i64 j.bd] W fun e w' => e = .returned (.tuple #[]) ∧ Wb B g (bs ++ jbN j) w' ∧ Bq B W w') := fun W hQ hW => by
    have q := numberX B g (bs ++ tbN j.nm ++ nsN [j.iv, j.sg, j.pr] ++ lsN nbN j.cs ++ lsN nbN j.bs) j.bd W hW (by (repeat first | rw [List.length_append] | rw [nsN_len] | rw [nbN_len] | rw [tbN_len] | rw [List.length_cons] | rw [List.length_nil]); have z1 := lsI_le j.cs; have z2 := lsI_le j.bs; have z3 := ho.2.2.2.2.2.2.2.1; have z4 := ho.2.2.2.2.2.2.2.2; have z5 : j.nm.size ≤ 1048576 := ho.1; omega)
    refine q.mono ?_
    rintro e w' ⟨he, h1, h2⟩
    exact ⟨he, by simpa only [jbN, List.append_assoc] using h1, h2⟩
  obtain ⟨AW, eW⟩ : ∃ AW, AW = w.alloc (.cells #[.string j.nm, .int .i64 j.iv, .int .i64 j.sg, .int .i64 j.pr, .slice x1 j.cs.length p1, .slice x2 j.bs.length p2, .int .i64 j.bd] 46 (0, 0)) := ⟨_, rfl⟩
  have AX : Hid (AW.heap[w.heap.size]? = some (.cells #[.string j.nm, .int .i64 j.iv, .int .i64 j.sg, .int .i64 j.pr, .slice x1 j.cs.length p1, .slice x2 j.bs.length p2, .int .i64 j.bd] 46 (0, 0))) := by rw [eW]; exact heap_alloc_last _ _
  have AB : Hid (Below w.heap.size w AW) := by rw [eW]; exact (Below.refl _ _).alloc (Nat.le_refl _) _
  have Q0 : Hid (Bq B AW AW) := Bq.refl _ _
  have QA : Hid (Bq B w AW) := Bq.up AB.out (by omega)
  have H0 : Hid (Wb B g bs AW) := Wq.below h AB.out
  clear h hl hS hq ho
  go_enter Tryz.func33, Tryz.ntmps33
  go_upto_region 1 with fail
  rw [← eW]
  clear eW
  have X := Q0.out.k _ _ _ _ AX.out (by decide) (by decide)
  have i0 : AW.cell? ⟨w.heap.size, 0, none⟩ = some (.string j.nm) := by simp [World.cell?, X]
  clear X
  go_wp2_with (go_at_call 27; refine (R0.out _ (QA.out.trans Q0.out) H0.out).mono ?_)
  first | (rintro e w1 ⟨he, h1, hb1⟩; have he' := he) | (rintro e w1 he h1 hb1)
  subst he
  have H1 : Hid (Wb B g (bs ++ tbN j.nm) w1) := h1
  have Q1 : Hid (Bq B AW w1) := Q0.out.trans hb1
  clear h1 hb1 i0
  have X := Q1.out.k _ _ _ _ AX.out (by decide) (by decide)
  have i1 : w1.cell? ⟨w.heap.size, 1, none⟩ = some (.int .i64 j.iv) := by simp [World.cell?, X]
  have i2 : w1.cell? ⟨w.heap.size, 2, none⟩ = some (.int .i64 j.sg) := by simp [World.cell?, X]
  have i3 : w1.cell? ⟨w.heap.size, 3, none⟩ = some (.int .i64 j.pr) := by simp [World.cell?, X]
  clear X
  go_wp2_with (go_at_call 62; refine (R1.out _ (QA.out.trans Q1.out) H1.out).mono ?_)
  first | (rintro e w2 ⟨he, h1, hb1⟩; have he' := he) | (rintro e w2 he h1 hb1)
  subst he
  have H2 : Hid (Wb B g (bs ++ tbN j.nm ++ nsN [j.iv, j.sg, j.pr]) w2) := h1
  have Q2 : Hid (Bq B AW w2) := Q1.out.trans hb1
  clear h1 hb1 i1 i2 i3
  have X := Q2.out.k _ _ _ _ AX.out (by decide) (by decide)
  have i4 : w2.cell? ⟨w.heap.size, 4, none⟩ = some (.slice x1 j.cs.length p1) := by simp [World.cell?, X]
  clear X
  go_wp2_with (go_at_call 68; refine (R2.out _ (QA.out.trans Q2.out) H2.out).mono ?_)
  first | (rintro e w3 ⟨he, h1, hb1⟩; have he' := he) | (rintro e w3 he h1 hb1)
  subst he
  have H3 : Hid (Wb B g (bs ++ tbN j.nm ++ nsN [j.iv, j.sg, j.pr] ++ lsN nbN j.cs) w3) := h1
  have Q3 : Hid (Bq B AW w3) := Q2.out.trans hb1
  clear h1 hb1 i4
  have X := Q3.out.k _ _ _ _ AX.out (by decide) (by decide)
  have i5 : w3.cell? ⟨w.heap.size, 5, none⟩ = some (.slice x2 j.bs.length p2) := by simp [World.cell?, X]
  clear X
  go_wp2_with (go_at_call 68; refine (R3.out _ (QA.out.trans Q3.out) H3.out).mono ?_)
  first | (rintro e w4 ⟨he, h1, hb1⟩; have he' := he) | (rintro e w4 he h1 hb1)
  subst he
  have H4 : Hid (Wb B g (bs ++ tbN j.nm ++ nsN [j.iv, j.sg, j.pr] ++ lsN nbN j.cs ++ lsN nbN j.bs) w4) := h1
  have Q4 : Hid (Bq B AW w4) := Q3.out.trans hb1
  clear h1 hb1 i5
  have X := Q4.out.k _ _ _ _ AX.out (by decide) (by decide)
  have i6 : w4.cell? ⟨w.heap.size, 6, none⟩ = some (.int .i64 j.bd) := by simp [World.cell?, X]
  clear X
  go_wp2_with (go_at_call 59; refine (R4.out _ (QA.out.trans Q4.out) H4.out).mono ?_)
  first | (rintro e w5 ⟨he, h1, hb1⟩; have he' := he) | (rintro e w5 he h1 hb1)
  subst he
  have H5 : Hid (Wb B g (bs ++ jbN j) w5) := h1
  have Q5 : Hid (Bq B AW w5) := Q4.out.trans hb1
  clear h1 hb1 i6
  go_wp2
  go_end0
  exact ⟨rfl, H5.out, QA.out.trans Q5.out⟩
end Go.Proofs.YtpcjnhffpkpchaaGreat
namespace Go.Proofs.YtpcjnhffpkpchaaGreat
set_option linter.unusedVariables false
open Go.RowKit
set_option maxRecDepth 20000 in
set_option maxHeartbeats 4000000 in
theorem wlFlat (B g : Nat) (bs : List Nat) (l : List FlR) (x : Option Addr) (c : Nat) (w : World) {S : Nat → Prop} (h : Wb B g bs w) (hS : ∀ b, S b → b < B) (ha : RwF 8 (FlP S w) S w x l) (ho : ∀ e ∈ l, FlS e) (hl : bs.length + 8 + l.length * 17200000000 ≤ 6000000000000) (hn : l.length ≤ 1048576) :
    Calls Tryz.prog 30 #[.pointer (some ⟨g, 0, none⟩), .slice x l.length c, .func (.func 31) #[.pointer (some ⟨g, 0, none⟩)] #[]] w fun e w' => e = .returned (.tuple #[]) ∧ Wb B g (bs ++ lsN flbN l) w' ∧ Bq B w w' := by
  have HB := h.lt
  have H : Hid (Wb B g bs w) := h
  have HA : Hid (∀ V, Bq B w V → RwF 8 (FlP S V) S V x l) := fun V hV => ha.frK keptF (fun q hq => hV.b.cell (hS _ hq))
  have HN : Hid (l.length ≤ 1048576) := hn
  have HS : Hid (∀ b, S b → b < B) := hS
  have OK : Hid (∀ e ∈ l, FlS e) := ho
  have HC : ∀ k : Nat, ((l.take k).flatMap flbN).length ≤ l.length * 17200000000 := fun k => Nat.le_trans (flat_le _ 17200000000 (l.take k) (fun e he => flbN_len (ho e (List.mem_of_mem_take he)))) (Nat.mul_le_mul_right _ (List.length_take_le' k l))
  have HT : Hid (∀ k, (bs ++ nbN l.length ++ (l.take k).flatMap flbN).length ≤ 6000000000000) := fun k => by rw [List.length_append, List.length_append, nbN_len]; have := HC k; omega
  have N0 : Hid (∀ W, Wb B g bs W → Calls Tryz.prog 59 #[.pointer (some ⟨g, 0, none⟩), .int .i64 l.length] W fun e w' => e = .returned (.tuple #[]) ∧ Wb B g (bs ++ nbN l.length) w' ∧ Bq B W w') := fun W hW => numberX B g bs _ W hW (by omega)
  clear h hS ha ho hl hn HC
  have E0 : ∀ (args : Array Value) (W : World), (callFunc 31 args).run Tryz.prog W = .ok (.enter 31 args) W := fun _ _ => by kernel_rfl
  go_enter Tryz.func30, Tryz.ntmps30
  go_wp2_with (go_at_call 59; refine (N0.out _ H.out).mono ?_)
  first | (rintro e w1 ⟨he, h1, hb1⟩; have he' := he) | (rintro e w1 he h1 hb1)
  subst he
  have H1 : Hid (Wb B g (bs ++ nbN l.length) w1) := h1
  have B1 : Hid (Bq B w w1) := hb1
  clear h1 hb1 N0 H
  go_upto_region 2 with fail
  go_loopw [14] (fun i wr => ∃ k : Nat, k ≤ l.length ∧ i = .int .i64 k ∧ Wb B g (bs ++ nbN l.length ++ (l.take k).flatMap flbN) wr ∧ Bq B w wr) (fun i _ => l.length - (intOf i).toNat)
  case atStart => exact ⟨0, Nat.zero_le _, rfl, by rw [List.take_zero, List.flatMap_nil, List.append_nil]; exact H1.out, B1.out⟩
  case round =>
    obtain ⟨k, hk, rfl, hw, hb⟩ := hrel
    have HW : Hid (Wb B g (bs ++ nbN l.length ++ (l.take k).flatMap flbN) wr) := hw
    have HQ : Hid (Bq B w wr) := hb
    clear hw hb H1 B1
    by_cases hlt : k < l.length
    · obtain ⟨a, rfl⟩ := (HA.out wr HQ.out).some (by omega)
      obtain ⟨s, sv, se, sb, ⟨sx, sc, sy, sd, rfl, sq⟩, sk⟩ := (HA.out wr HQ.out).el k hlt
      have e0 := sk.c0
      have e1 := sk.cp 0 _ rfl
      have e2 := sk.cp 1 _ rfl
      have e3 := sk.cp 2 _ rfl
      have e4 := sk.cp 3 _ rfl
      have e5 := sk.cp 4 _ rfl
      have e6 := sk.cp 5 _ rfl
      have e7 := sk.cp 6 _ rfl
      have SE : Hid (l[k]? = some s) := se
      have LT : Hid (k < l.length) := hlt
      have kl : (k : Int) < l.length := by omega
      have ek : wrap64 ((k : Int) + 1) = (k : Int) + 1 := by have := HN.out; unfold wrap64; omega
      have TK : Hid (bs ++ nbN l.length ++ (l.take (k + 1)).flatMap flbN = bs ++ nbN l.length ++ (l.take k).flatMap flbN ++ flbN s) := by show _ = _; rw [List.take_add_one, se, List.flatMap_append]; simp [List.append_assoc]
      have SO := OK.out s (List.mem_of_getElem? se)
      have SS := sq
      have za := block_lt_of_cell e0
      obtain ⟨AR, eR⟩ : ∃ AR, AR = wr.alloc (.cells #[.string s.nm, .int .i64 s.wh, .int .i64 s.ce, .int .i64 s.ba, .int .i64 s.rg, .int .i64 s.sl, .slice sx s.os.length sc, .slice sy s.ls.length sd] 64 (0, 0)) := ⟨_, rfl⟩
      have RB : Hid (Below wr.heap.size wr AR) := by rw [eR]; exact (Below.refl _ _).alloc (Nat.le_refl _) _
      have RX : Hid (AR.heap[wr.heap.size]? = some (.cells #[.string s.nm, .int .i64 s.wh, .int .i64 s.ce, .int .i64 s.ba, .int .i64 s.rg, .int .i64 s.sl, .slice sx s.os.length sc, .slice sy s.ls.length sd] 64 (0, 0))) := by rw [eR]; exact heap_alloc_last _ _
      have WR : Hid (Wb B g (bs ++ nbN l.length ++ (l.take k).flatMap flbN) AR) := Wq.below HW.out RB.out
      have QR : Hid (Bq B w AR) := HQ.out.trans (Bq.up RB.out (by have := HQ.out.b.size; omega))
      have R0 : Hid (Calls Tryz.prog 31 #[.pointer (some ⟨g, 0, none⟩), FlV s sx sy sc sd] AR fun e w' => e = .returned (.tuple #[]) ∧ Wb B g (bs ++ nbN l.length ++ (l.take (k + 1)).flatMap flbN) w' ∧ Bq B AR w') := by
        rw [TK.out]
        have HT' := HT.out k
        have hW := WR.out
        generalize bs ++ nbN l.length ++ (l.take k).flatMap flbN = bz at *
        exact codeX B g bz s sx sy sc sd AR hW HT' HS.out (sq.fr (fun q hqq => RB.out.cell (Nat.lt_of_lt_of_le (HS.out _ hqq) (by have := HB; have := HQ.out.b.size; omega)))) SO
      clear hlt se sk sb hk SO sq SS
      go_upto_region 4 with fail
      rw [← eR]
      clear eR za e0 e1 e2 e3 e4 e5 e6 e7
      have i0 : AR.cell? ⟨wr.heap.size, 0, none⟩ = some (.string s.nm) := by simp [World.cell?, RX.out]
      have i1 : AR.cell? ⟨wr.heap.size, 1, none⟩ = some (.int .i64 s.wh) := by simp [World.cell?, RX.out]
      have i2 : AR.cell? ⟨wr.heap.size, 2, none⟩ = some (.int .i64 s.ce) := by simp [World.cell?, RX.out]
      have i3 : AR.cell? ⟨wr.heap.size, 3, none⟩ = some (.int .i64 s.ba) := by simp [World.cell?, RX.out]
      have i4 : AR.cell? ⟨wr.heap.size, 4, none⟩ = some (.int .i64 s.rg) := by simp [World.cell?, RX.out]
      have i5 : AR.cell? ⟨wr.heap.size, 5, none⟩ = some (.int .i64 s.sl) := by simp [World.cell?, RX.out]
      have i6 : AR.cell? ⟨wr.heap.size, 6, none⟩ = some (.slice sx s.os.length sc) := by simp [World.cell?, RX.out]
      have i7 : AR.cell? ⟨wr.heap.size, 7, none⟩ = some (.slice sy s.ls.length sd) := by simp [World.cell?, RX.out]
      go_wp2_with fail
      refine (R0.out).mono ?_
      first | (rintro e w2 ⟨he, h1, hb1⟩; have he' := he) | (rintro e w2 he h1 hb1)
      subst he
      have H2 : Hid (Wb B g (bs ++ nbN l.length ++ (l.take (k + 1)).flatMap flbN) w2) := h1
      have Q2 : Hid (Bq B w w2) := QR.out.trans hb1
      clear h1 hb1 R0 i0 i1 i2 i3 i4 i5 i6 i7
      go_wp2
      try rw [ek]
      exact ⟨⟨k + 1, Nat.succ_le_of_lt LT.out, rfl, H2.out, Q2.out⟩, msrE LT.out⟩
    · have kl : ¬ (k : Int) < l.length := by omega
      have ek : k = l.length := by omega
      subst ek
      rw [List.take_length, List.append_assoc] at HW
      clear hlt hk
      go_wp2
      go_end0
      exact ⟨rfl, HW.out, HQ.out⟩
set_option maxRecDepth 20000 in
set_option maxHeartbeats 4000000 in
theorem wlJob (B g : Nat) (bs : List Nat) (l : List JbR) (x : Option Addr) (c : Nat) (w : World) {S : Nat → Prop} (h : Wb B g bs w) (hS : ∀ b, S b → b < B) (ha : RwF 7 (JbP S w) S w x l) (ho : ∀ e ∈ l, JbOk e) (hl : bs.length + 8 + l.length * 18000000 ≤ 6000000000000) (hn : l.length ≤ 1048576) :
    Calls Tryz.prog 32 #[.pointer (some ⟨g, 0, none⟩), .slice x l.length c, .func (.func 33) #[.pointer (some ⟨g, 0, none⟩)] #[]] w fun e w' => e = .returned (.tuple #[]) ∧ Wb B g (bs ++ lsN jbN l) w' ∧ Bq B w w' := by
  have HB := h.lt
  have H : Hid (Wb B g bs w) := h
  have HA : Hid (∀ V, Bq B w V → RwF 7 (JbP S V) S V x l) := fun V hV => ha.frK keptJ (fun q hq => hV.b.cell (hS _ hq))
  have HN : Hid (l.length ≤ 1048576) := hn
  have HS : Hid (∀ b, S b → b < B) := hS
  have OK : Hid (∀ e ∈ l, JbOk e) := ho
  have HC : ∀ k : Nat, ((l.take k).flatMap jbN).length ≤ l.length * 18000000 := fun k => Nat.le_trans (flat_le _ 18000000 (l.take k) (fun e he => jbN_len (ho e (List.mem_of_mem_take he)))) (Nat.mul_le_mul_right _ (List.length_take_le' k l))
  have HT : Hid (∀ k, (bs ++ nbN l.length ++ (l.take k).flatMap jbN).length ≤ 6000000000000) := fun k => by rw [List.length_append, List.length_append, nbN_len]; have := HC k; omega
  have N0 : Hid (∀ W, Wb B g bs W → Calls Tryz.prog 59 #[.pointer (some ⟨g, 0, none⟩), .int .i64 l.length] W fun e w' => e = .returned (.tuple #[]) ∧ Wb B g (bs ++ nbN l.length) w' ∧ Bq B W w') := fun W hW => numberX B g bs _ W hW (by omega)
  clear h hS ha ho hl hn HC
  have E0 : ∀ (args : Array Value) (W : World), (callFunc 33 args).run Tryz.prog W = .ok (.enter 33 args) W := fun _ _ => by kernel_rfl
  go_enter Tryz.func32, Tryz.ntmps32
  go_wp2_with (go_at_call 59; refine (N0.out _ H.out).mono ?_)
  first | (rintro e w1 ⟨he, h1, hb1⟩; have he' := he) | (rintro e w1 he h1 hb1)
  subst he
  have H1 : Hid (Wb B g (bs ++ nbN l.length) w1) := h1
  have B1 : Hid (Bq B w w1) := hb1
  clear h1 hb1 N0 H
  go_upto_region 2 with fail
  go_loopw [14] (fun i wr => ∃ k : Nat, k ≤ l.length ∧ i = .int .i64 k ∧ Wb B g (bs ++ nbN l.length ++ (l.take k).flatMap jbN) wr ∧ Bq B w wr) (fun i _ => l.length - (intOf i).toNat)
  case atStart => exact ⟨0, Nat.zero_le _, rfl, by rw [List.take_zero, List.flatMap_nil, List.append_nil]; exact H1.out, B1.out⟩
  case round =>
    obtain ⟨k, hk, rfl, hw, hb⟩ := hrel
    have HW : Hid (Wb B g (bs ++ nbN l.length ++ (l.take k).flatMap jbN) wr) := hw
    have HQ : Hid (Bq B w wr) := hb
    clear hw hb H1 B1
    by_cases hlt : k < l.length
    · obtain ⟨a, rfl⟩ := (HA.out wr HQ.out).some (by omega)
      obtain ⟨s, sv, se, sb, ⟨sx, sc, sy, sd, rfl, sq⟩, sk⟩ := (HA.out wr HQ.out).el k hlt
      have e0 := sk.c0
      have e1 := sk.cp 0 _ rfl
      have e2 := sk.cp 1 _ rfl
      have e3 := sk.cp 2 _ rfl
      have e4 := sk.cp 3 _ rfl
      have e5 := sk.cp 4 _ rfl
      have e6 := sk.cp 5 _ rfl
      have SE : Hid (l[k]? = some s) := se
      have LT : Hid (k < l.length) := hlt
      have kl : (k : Int) < l.length := by omega
      have ek : wrap64 ((k : Int) + 1) = (k : Int) + 1 := by have := HN.out; unfold wrap64; omega
      have TK : Hid (bs ++ nbN l.length ++ (l.take (k + 1)).flatMap jbN = bs ++ nbN l.length ++ (l.take k).flatMap jbN ++ jbN s) := by show _ = _; rw [List.take_add_one, se, List.flatMap_append]; simp [List.append_assoc]
      have SO := OK.out s (List.mem_of_getElem? se)
      have SS := sq
      have za := block_lt_of_cell e0
      obtain ⟨AR, eR⟩ : ∃ AR, AR = wr.alloc (.cells #[.string s.nm, .int .i64 s.iv, .int .i64 s.sg, .int .i64 s.pr, .slice sx s.cs.length sc, .slice sy s.bs.length sd, .int .i64 s.bd] 46 (0, 0)) := ⟨_, rfl⟩
      have RB : Hid (Below wr.heap.size wr AR) := by rw [eR]; exact (Below.refl _ _).alloc (Nat.le_refl _) _
      have RX : Hid (AR.heap[wr.heap.size]? = some (.cells #[.string s.nm, .int .i64 s.iv, .int .i64 s.sg, .int .i64 s.pr, .slice sx s.cs.length sc, .slice sy s.bs.length sd, .int .i64 s.bd] 46 (0, 0))) := by rw [eR]; exact heap_alloc_last _ _
      have WR : Hid (Wb B g (bs ++ nbN l.length ++ (l.take k).flatMap jbN) AR) := Wq.below HW.out RB.out
      have QR : Hid (Bq B w AR) := HQ.out.trans (Bq.up RB.out (by have := HQ.out.b.size; omega))
      have R0 : Hid (Calls Tryz.prog 33 #[.pointer (some ⟨g, 0, none⟩), .agg #[.string s.nm, .int .i64 s.iv, .int .i64 s.sg, .int .i64 s.pr, .slice sx s.cs.length sc, .slice sy s.bs.length sd, .int .i64 s.bd]] AR fun e w' => e = .returned (.tuple #[]) ∧ Wb B g (bs ++ nbN l.length ++ (l.take (k + 1)).flatMap jbN) w' ∧ Bq B AR w') := by
        rw [TK.out]
        have HT' := HT.out k
        have hW := WR.out
        generalize bs ++ nbN l.length ++ (l.take k).flatMap jbN = bz at *
        exact jobX B g bz s sx sy sc sd AR hW HT' HS.out (sq.fr (fun q hqq => RB.out.cell (Nat.lt_of_lt_of_le (HS.out _ hqq) (by have := HB; have := HQ.out.b.size; omega)))) SO
      clear hlt se sk sb hk SO sq SS
      go_upto_region 4 with fail
      rw [← eR]
      clear eR za e0 e1 e2 e3 e4 e5 e6
      have i0 : AR.cell? ⟨wr.heap.size, 0, none⟩ = some (.string s.nm) := by simp [World.cell?, RX.out]
      have i1 : AR.cell? ⟨wr.heap.size, 1, none⟩ = some (.int .i64 s.iv) := by simp [World.cell?, RX.out]
      have i2 : AR.cell? ⟨wr.heap.size, 2, none⟩ = some (.int .i64 s.sg) := by simp [World.cell?, RX.out]
      have i3 : AR.cell? ⟨wr.heap.size, 3, none⟩ = some (.int .i64 s.pr) := by simp [World.cell?, RX.out]
      have i4 : AR.cell? ⟨wr.heap.size, 4, none⟩ = some (.slice sx s.cs.length sc) := by simp [World.cell?, RX.out]
      have i5 : AR.cell? ⟨wr.heap.size, 5, none⟩ = some (.slice sy s.bs.length sd) := by simp [World.cell?, RX.out]
      have i6 : AR.cell? ⟨wr.heap.size, 6, none⟩ = some (.int .i64 s.bd) := by simp [World.cell?, RX.out]
      go_wp2_with fail
      refine (R0.out).mono ?_
      first | (rintro e w2 ⟨he, h1, hb1⟩; have he' := he) | (rintro e w2 he h1 hb1)
      subst he
      have H2 : Hid (Wb B g (bs ++ nbN l.length ++ (l.take (k + 1)).flatMap jbN) w2) := h1
      have Q2 : Hid (Bq B w w2) := QR.out.trans hb1
      clear h1 hb1 R0 i0 i1 i2 i3 i4 i5 i6
      go_wp2
      try rw [ek]
      exact ⟨⟨k + 1, Nat.succ_le_of_lt LT.out, rfl, H2.out, Q2.out⟩, msrE LT.out⟩
    · have kl : ¬ (k : Int) < l.length := by omega
      have ek : k = l.length := by omega
      subst ek
      rw [List.take_length, List.append_assoc] at HW
      clear hlt hk
      go_wp2
      go_end0
      exact ⟨rfl, HW.out, HQ.out⟩
/-- An image's bytes, but for the sum. -/
def imbN (m : ImR) : List Nat := sbN ⟨#[114, 108, 121, 1]⟩ ++ tbN m.nm ++ lsN cbN m.cs ++ lsN flbN m.fs ++ lsN jbN m.js
theorem lsC_le {l : List CeR} (h : ∀ c ∈ l, CeOk c) : (lsN cbN l).length ≤ 8 + l.length * 2097205 := lsN_le _ _ _ (fun e he => by rw [cbN_len]; have q := h e he; have q1 : e.is.size ≤ 1048576 := q.2.2.2.2.2.2.1; have q2 : e.ad.size ≤ 1048576 := q.2.2.2.2.2.2.2.2; omega)
theorem lsF_le {l : List FlR} (h : ∀ c ∈ l, FlS c) : (lsN flbN l).length ≤ 8 + l.length * 17200000000 := lsN_le _ _ _ (fun e he => flbN_len (h e he))
theorem lsJ_le {l : List JbR} (h : ∀ c ∈ l, JbOk c) : (lsN jbN l).length ≤ 8 + l.length * 18000000 := lsN_le _ _ _ (fun e he => jbN_len (h e he))
/-- Is an image small enough? -/
def ImS (m : ImR) : Prop := shT m.nm ∧ (∀ c ∈ m.cs, CeOk c) ∧ (∀ f ∈ m.fs, FlS f) ∧ (∀ j ∈ m.js, JbOk j) ∧ m.cs.length ≤ 4096 ∧ m.fs.length ≤ 64 ∧ m.js.length ≤ 16
set_option maxRecDepth 20000 in
set_option maxHeartbeats 4000000 in
theorem imageX (B g : Nat) (m : ImR) (x1 x2 x3 : Option Addr) (p1 p2 p3 : Nat) (w : World) {S : Nat → Prop} (h : Wb B g [] w) (hS : ∀ b, S b → b < B) (hq : ImQ S w m x1 x2 x3) (ho : ImS m) :
    Calls Tryz.prog 14 #[.pointer (some ⟨g, 0, none⟩), .agg #[.string m.nm, .slice x1 m.cs.length p1, .slice x2 m.fs.length p2, .slice x3 m.js.length p3]] w fun e w' => e = .returned (.tuple #[]) ∧ Wb B g (imbN m) w' ∧ Bq B w w' := by
  obtain ⟨i0, hi, hz0, hz1, hz2⟩ := u8_info
  have HB := h.lt
  obtain ⟨o1, o2, o3, o4, o5, o6, o7⟩ := ho
  have z1 := lsC_le o2
  have z2 := lsF_le o3
  have z3 := lsJ_le o4
  have z0 : m.nm.size ≤ 1048576 := o1
  have zm : (sbN ⟨#[114, 108, 121, 1]⟩).length = 4 := by rw [sbN_len]; rfl
  have R3 : Hid (∀ W, Bq B w W → Wb B g (sbN ⟨#[114, 108, 121, 1]⟩) W → Calls Tryz.prog 27 #[.pointer (some ⟨g, 0, none⟩), .string m.nm] W fun e w' => e = .returned (.tuple #[]) ∧ Wb B g (sbN ⟨#[114, 108, 121, 1]⟩ ++ tbN m.nm) w' ∧ Bq B W w') := fun W hQ hW => textX B g (sbN ⟨#[114, 108, 121, 1]⟩) m.nm W hW (by (repeat first | rw [List.length_append] | rw [zm] | rw [tbN_len]); omega) z0
  have R4 : Hid (∀ W, Bq B w W → Wb B g (sbN ⟨#[114, 108, 121, 1]⟩ ++ tbN m.nm) W → Calls Tryz.prog 28 #[.pointer (some ⟨g, 0, none⟩), .slice x1 m.cs.length p1, .func (.func 29) #[.pointer (some ⟨g, 0, none⟩)] #[]] W fun e w' => e = .returned (.tuple #[]) ∧ Wb B g (sbN ⟨#[114, 108, 121, 1]⟩ ++ tbN m.nm ++ lsN cbN m.cs) w' ∧ Bq B W w') := fun W hQ hW => wlCell B g (sbN ⟨#[114, 108, 121, 1]⟩ ++ tbN m.nm) m.cs x1 p1 W hW hS (hq.1.fr (fun q hqq => hQ.b.cell (hS _ hqq))) o2 (by (repeat first | rw [List.length_append] | rw [zm] | rw [tbN_len]); omega) (by omega)
  have R5 : Hid (∀ W, Bq B w W → Wb B g (sbN ⟨#[114, 108, 121, 1]⟩ ++ tbN m.nm ++ lsN cbN m.cs) W → Calls Tryz.prog 30 #[.pointer (some ⟨g, 0, none⟩), .slice x2 m.fs.length p2, .func (.func 31) #[.pointer (some ⟨g, 0, none⟩)] #[]] W fun e w' => e = .returned (.tuple #[]) ∧ Wb B g (sbN ⟨#[114, 108, 121, 1]⟩ ++ tbN m.nm ++ lsN cbN m.cs ++ lsN flbN m.fs) w' ∧ Bq B W w') := fun W hQ hW => wlFlat B g (sbN ⟨#[114, 108, 121, 1]⟩ ++ tbN m.nm ++ lsN cbN m.cs) m.fs x2 p2 W hW hS (hq.2.1.frK keptF (fun q hqq => hQ.b.cell (hS _ hqq))) o3 (by (repeat first | rw [List.length_append] | rw [zm] | rw [tbN_len]); omega) (by omega)
  have R6 : Hid (∀ W, Bq B w W → Wb B g (sbN ⟨#[114, 108, 121, 1]⟩ ++ tbN m.nm ++ lsN cbN m.cs ++ lsN flbN m.fs) W → Calls Tryz.prog 32 #[.pointer (some ⟨g, 0, none⟩), .slice x3 m.js.length p3, .func (.func 33) #[.pointer (some ⟨g, 0, none⟩)] #[]] W fun e w' => e = .returned (.tuple #[]) ∧ Wb B g (sbN ⟨#[114, 108, 121, 1]⟩ ++ tbN m.nm ++ lsN cbN m.cs ++ lsN flbN m.fs ++ lsN jbN m.js) w' ∧ Bq B W w') := fun W hQ hW => wlJob B g (sbN ⟨#[114, 108, 121, 1]⟩ ++ tbN m.nm ++ lsN cbN m.cs ++ lsN flbN m.fs) m.js x3 p3 W hW hS (hq.2.2.frK keptJ (fun q hqq => hQ.b.cell (hS _ hqq))) o4 (by (repeat first | rw [List.length_append] | rw [zm] | rw [tbN_len]); omega) (by omega)
  clear z1 z2 z3 o1 o2 o3 o4 o5 o6 o7 hS hq z0 zm
  obtain ⟨AW, eW⟩ : ∃ AW, AW = w.alloc (.cells #[.string m.nm, .slice x1 m.cs.length p1, .slice x2 m.fs.length p2, .slice x3 m.js.length p3] 26 (0, 0)) := ⟨_, rfl⟩
  have AB : Hid (Below w.heap.size w AW) := by rw [eW]; exact (Below.refl _ _).alloc (Nat.le_refl _) _
  have AX : Hid (AW.heap[w.heap.size]? = some (.cells #[.string m.nm, .slice x1 m.cs.length p1, .slice x2 m.fs.length p2, .slice x3 m.js.length p3] 26 (0, 0))) := by rw [eW]; exact heap_alloc_last _ _
  have QA : Hid (Bq B w AW) := Bq.up AB.out (by omega)
  have h' : Wq B g [] AW := Wq.below h AB.out
  clear h
  obtain ⟨x, n, c, hg, hown⟩ := h'.shape
  have c0 : AW.cell? ⟨g, 0, none⟩ = some (.slice x n c) := by simp [World.cell?, hg]
  have HG : Hid (AW.heap[g]? = some (.cells #[.slice x n c] 52 (0, 0))) := hg
  have HO : Hid (AW.ownsRow B 5 1 (.slice x n c) ([] : List Value).length []) := hown
  have NE : Hid ((Value.slice x n c).ownBlock ≠ some g) := Lib.ownBlock_ne hown hg (by decide)
  have AS : AW.heap.size = w.heap.size + 1 := by rw [eW]; simp
  clear h' hg hown
  go_enter Tryz.func14, Tryz.ntmps14
  go_upto_region 1 with fail
  rw [← eW]
  clear eW
  go_wp2_with (at_builtin; refine Lib.wpList_append_own_string _ rfl _ _ 28 9 rfl B 5 i0 Tryz.underlying28 Tryz.underlying9 hi hz0 hz1 hz2 _ _ _ rfl HO.out ⟨#[114, 108, 121, 1]⟩ rfl ?c3 ?c4 ?c5 ?_)
  case c3 => decide
  case c4 => decide
  case c5 => omega
  intro v' w2 hown' hgrow hnil
  have O2 : Hid (w2.ownsRow B 5 1 v' (Lib.strCells ⟨#[114, 108, 121, 1]⟩).length (Lib.strCells ⟨#[114, 108, 121, 1]⟩)) := hown'
  have HB2 : g < AW.heap.size := blk_in HG.out
  have G2 : Hid (w2.heap[g]? = some (.cells #[.slice x n c] 52 (0, 0))) := by
    rw [hgrow.block g HB2 (fun e => NE.out e.symm)]
    exact HG.out
  have Q2 : Hid (Bq B AW w2) := (Bq.refl B AW).grown HO.out hgrow (by omega)
  have d0 : w2.cell? ⟨g, 0, none⟩ = some (.slice x n c) := by simp [World.cell?, G2.out]
  have d1 : w2.frozen? ⟨g, 0, none⟩ = false := by simp [World.frozen?, G2.out]
  obtain ⟨y, k, q, rfl⟩ : ∃ y k q, v' = .slice y k q := by
    rcases hown'.2 with ⟨hv, _⟩ | ⟨_, cap, cur, hv, _⟩
    · exact ⟨_, _, _, hv⟩
    · exact ⟨_, _, _, hv⟩
  clear hown' hgrow hnil c0
  obtain ⟨w3, e3⟩ : ∃ V, V = w2.setCell ⟨g, 0, none⟩ (.slice y k q) := ⟨_, rfl⟩
  have H3 : Hid (Wb B g (sbN ⟨#[114, 108, 121, 1]⟩) w3) := by unfold Wb; rw [e3, sbN_str]; exact Wq.put HB.1 G2.out O2.out (U8s.str _)
  have Q3 : Hid (Bq B AW w3) := by rw [e3]; exact Q2.out.set G2.out HB.1 _ _
  go_upto_region 2 with fail
  rw [← e3]
  clear e3 d0 d1 G2 O2 Q2
  have X := Q3.out.k _ _ _ _ AX.out (by decide) (by decide)
  have i0 : w3.cell? ⟨w.heap.size, 0, none⟩ = some (.string m.nm) := by simp [World.cell?, X]
  clear X
  go_wp2_with (go_at_call 27; refine (R3.out _ (QA.out.trans Q3.out) H3.out).mono ?_)
  first | (rintro e w4 ⟨he, h1, hb1⟩; have he' := he) | (rintro e w4 he h1 hb1)
  subst he
  have H4 : Hid (Wb B g (sbN ⟨#[114, 108, 121, 1]⟩ ++ tbN m.nm) w4) := h1
  have Q4 : Hid (Bq B AW w4) := Q3.out.trans hb1
  clear h1 hb1 i0
  have X := Q4.out.k _ _ _ _ AX.out (by decide) (by decide)
  have i1 : w4.cell? ⟨w.heap.size, 1, none⟩ = some (.slice x1 m.cs.length p1) := by simp [World.cell?, X]
  clear X
  go_wp2_with (go_at_call 28; refine (R4.out _ (QA.out.trans Q4.out) H4.out).mono ?_)
  first | (rintro e w5 ⟨he, h1, hb1⟩; have he' := he) | (rintro e w5 he h1 hb1)
  subst he
  have H5 : Hid (Wb B g (sbN ⟨#[114, 108, 121, 1]⟩ ++ tbN m.nm ++ lsN cbN m.cs) w5) := h1
  have Q5 : Hid (Bq B AW w5) := Q4.out.trans hb1
  clear h1 hb1 i1
  have X := Q5.out.k _ _ _ _ AX.out (by decide) (by decide)
  have i2 : w5.cell? ⟨w.heap.size, 2, none⟩ = some (.slice x2 m.fs.length p2) := by simp [World.cell?, X]
  clear X
  go_wp2_with (go_at_call 30; refine (R5.out _ (QA.out.trans Q5.out) H5.out).mono ?_)
  first | (rintro e w6 ⟨he, h1, hb1⟩; have he' := he) | (rintro e w6 he h1 hb1)
  subst he
  have H6 : Hid (Wb B g (sbN ⟨#[114, 108, 121, 1]⟩ ++ tbN m.nm ++ lsN cbN m.cs ++ lsN flbN m.fs) w6) := h1
  have Q6 : Hid (Bq B AW w6) := Q5.out.trans hb1
  clear h1 hb1 i2
  have X := Q6.out.k _ _ _ _ AX.out (by decide) (by decide)
  have i3 : w6.cell? ⟨w.heap.size, 3, none⟩ = some (.slice x3 m.js.length p3) := by simp [World.cell?, X]
  clear X
  go_wp2_with (go_at_call 32; refine (R6.out _ (QA.out.trans Q6.out) H6.out).mono ?_)
  first | (rintro e w7 ⟨he, h1, hb1⟩; have he' := he) | (rintro e w7 he h1 hb1)
  subst he
  have H7 : Hid (Wb B g (sbN ⟨#[114, 108, 121, 1]⟩ ++ tbN m.nm ++ lsN cbN m.cs ++ lsN flbN m.fs ++ lsN jbN m.js) w7) := h1
  have Q7 : Hid (Bq B AW w7) := Q6.out.trans hb1
  clear h1 hb1 i3
  go_wp2
  go_end0
  exact ⟨rfl, H7.out, QA.out.trans Q7.out⟩
end Go.Proofs.YtpcjnhffpkpchaaGreat
