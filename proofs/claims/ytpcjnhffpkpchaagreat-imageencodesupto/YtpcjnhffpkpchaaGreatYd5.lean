/- The document's image: a code's bytes, exactly; no statement of the seat is proved here. -/
import Derived.Test.YtpcjnhffpkpchaaGreatYd3
import Derived.Deep.RegionLaw
namespace Go.Proofs.YtpcjnhffpkpchaaGreat
set_option linter.unusedVariables false
open Go.RowKit
/-- A slice of bytes that is one's own. -/
def Sb (B : Nat) (l : List Nat) (v : Value) (V : World) : Prop := V.ownsRow B 5 1 v l.length (bvL l)
theorem Sb.form {B : Nat} {l : List Nat} {v : Value} {V : World} (h : Sb B l v V) : ∃ x n c, v = .slice x n c := by
  rcases h.2 with ⟨hv, _⟩ | ⟨_, cap, cur, hv, _⟩
  · exact ⟨_, _, _, hv⟩
  · exact ⟨_, _, _, hv⟩
theorem Sb.below {B : Nat} {l : List Nat} {v : Value} {V V' : World} (h : Sb B l v V) (hb : Below V.heap.size V V') : Sb B l v V' :=
  World.ownsRow.kept (row := none) h ⟨hb.os, hb.tape, hb.output, hb.size, fun k hk _ => hb.block k hk⟩ (by rcases h : v.ownBlock with _ | q <;> simp)
theorem Sb.app {B : Nat} {l : List Nat} {v : Value} {V : World} {b : List Nat} {n : Nat} {xs : List Value} (h : V.ownsRow B 5 1 v n xs) (hn : n = l.length + b.length) (hx : xs = bvL l ++ bvL b) : Sb B (l ++ b) v V := by
  unfold Sb
  rw [bvL_app, List.length_append, ← hn, ← hx]
  exact h
theorem one_app {B : Nat} {l : List Nat} {v : Value} {V : World} {b : Nat} (h : V.ownsRow B 5 1 v (l.length + 1) (bvL l ++ [.int .u8 (b : Int)])) : Sb B (l ++ [b]) v V := Sb.app h rfl rfl
/-- The k-th number of a number's halving by bytes. -/
def xK (n : Int) (k : Nat) : Int := n % 18446744073709551616 / 256 ^ k
theorem xK_range (n : Int) (k : Nat) (h : k < 9) : 0 ≤ xK n k ∧ xK n k < 18446744073709551616 := by
  unfold xK
  rcases (show k = 0 ∨ k = 1 ∨ k = 2 ∨ k = 3 ∨ k = 4 ∨ k = 5 ∨ k = 6 ∨ k = 7 ∨ k = 8 by omega) with rfl | rfl | rfl | rfl | rfl | rfl | rfl | rfl | rfl <;> omega
theorem xK_succ (n : Int) (k : Nat) (h : k < 8) : xK n k / (256 : Int) = xK n (k + 1) := by
  unfold xK
  rcases (show k = 0 ∨ k = 1 ∨ k = 2 ∨ k = 3 ∨ k = 4 ∨ k = 5 ∨ k = 6 ∨ k = 7 by omega) with rfl | rfl | rfl | rfl | rfl | rfl | rfl | rfl <;> omega
theorem xK_byte (n : Int) (k : Nat) (h : k < 8) : xK n k % (256 : Int) = ((n / 2 ^ (8 * k) % (256 : Int)).toNat : Int) := by
  rw [by_nat]
  unfold xK
  rcases (show k = 0 ∨ k = 1 ∨ k = 2 ∨ k = 3 ∨ k = 4 ∨ k = 5 ∨ k = 6 ∨ k = 7 by omega) with rfl | rfl | rfl | rfl | rfl | rfl | rfl | rfl <;> omega
set_option maxRecDepth 20000 in
set_option maxHeartbeats 4000000 in
theorem numR (B : Nat) (l : List Nat) (v : Value) (n : Int) (w : World) (h : Sb B l v w) (hB : B ≤ w.heap.size) (hl : l.length ≤ 35184372088832) :
    Calls Tryz.prog 42 #[v, .int .i64 n] w fun e w' => ∃ v', e = .returned v' ∧ Sb B (l ++ nbN n) v' w' ∧ Bq B w w' := by
  obtain ⟨i0, hi, hz0, hz1, hz2⟩ := u8_info
  obtain ⟨sx, sn, sc, rfl⟩ := h.form
  have H : Hid (Sb B l (.slice sx sn sc) w) := h
  have HL : Hid (l.length ≤ 35184372088832) := hl
  have HB : Hid (B ≤ w.heap.size) := hB
  clear h hl hB
  have X0 : Hid (n % 18446744073709551616 = xK n 0) := by show _ = _; unfold xK; omega
  go_enter Tryz.func42, Tryz.ntmps42
  go_upto_region 2 with fail
  go_upto_region 3 with fail
  go_loopw [0, 5, 6] (fun v x i wr => ∃ (k : Nat) (sx : Option Addr) (sn sc : Nat), k ≤ 8 ∧ v = .slice sx sn sc ∧ x = .int .u64 (xK n k) ∧ i = .int .i64 k ∧ Sb B (l ++ nbK n k) (.slice sx sn sc) wr ∧ Bq B w wr) (fun _ _ i _ => 8 - (intOf i).toNat)
  case atStart => exact ⟨0, sx, sn, sc, Nat.zero_le _, rfl, by rw [← X0.out]; first | done | rfl, rfl, by rw [show nbK n 0 = [] from rfl, List.append_nil]; exact H.out, Bq.refl _ _⟩
  case round =>
    obtain ⟨k, tx, tn, tc, hk, rfl, rfl, rfl, hw, hb⟩ := hrel
    have HW : Hid (Sb B (l ++ nbK n k) (.slice tx tn tc) wr) := hw
    have HQ : Hid (Bq B w wr) := hb
    clear hw hb
    by_cases hlt : k < 8
    · have kl : (k : Int) < 8 := by omega
      have LT : Hid (k < 8) := hlt
      have ek : wrap64 ((k : Int) + 1) = (k : Int) + 1 := by unfold wrap64; omega
      obtain ⟨x0, x1⟩ := xK_range n k (by omega)
      have XS : Hid (xK n k / (256 : Int) = xK n (k + 1)) := xK_succ n k hlt
      have XB : Hid (xK n k % (256 : Int) = ((n / 2 ^ (8 * k) % (256 : Int)).toNat : Int)) := xK_byte n k hlt
      have NB : Hid (nbK n (k + 1) = nbK n k ++ [(n / 2 ^ (8 * k) % (256 : Int)).toNat]) := nbK_succ n k
      generalize (n / 2 ^ (8 * k) % (256 : Int)).toNat = b at *
      generalize xK n k = x at *
      have BW : Hid (B ≤ wr.heap.size) := Nat.le_trans HB.out HQ.out.b.size
      have LW : Hid ((l ++ nbK n k).length ≤ 35184372088900) := by show _ ≤ _; rw [List.length_append, nbK_len]; have := HL.out; omega
      have GA : Hid (∀ X : Obj, Below wr.heap.size wr (wr.alloc X)) := fun X => (Below.refl _ _).alloc (Nat.le_refl _) _
      clear hlt hk
      go_wp2_with (at_builtin; refine wpList_append_own _ rfl _ _ 28 rfl B 5 i0 _ 1 1 Tryz.underlying28 hi hz0 hz1 hz2 rfl (by decide) _ (l ++ nbK n k).length (bvL (l ++ nbK n k)) rfl (HW.out.below (GA.out _)) ⟨wr.heap.size, 0, none⟩ 1 1 [.int .u8 (x % 256)] rfl rfl (cell_one_new _ _ _) (by simp [Value.oneCell']) (by have := LW.out; unfold maxLen; omega) (by have := LW.out; omega) (by have := BW.out; simp; omega) ?_)
      intro v' w1 k1 k2 k3
      rw [XB.out] at k1
      have S1 : Hid (Sb B (l ++ nbK n (k + 1)) v' w1) := by show Sb _ _ _ _; rw [NB.out, ← List.append_assoc]; exact Sb.app (b := [b]) k1 (by simp [List.length_append]) rfl
      have Q1 : Hid (Bq B w w1) := (HQ.out.trans (Bq.up (GA.out _) BW.out)).grown (HW.out.below (GA.out _)) k2 (by have := BW.out; simp; omega)
      obtain ⟨ux, un, uc, rfl⟩ := S1.out.form
      clear k1 k2 k3
      go_wp2
      try rw [ek]
      exact ⟨⟨k + 1, ux, un, uc, Nat.succ_le_of_lt LT.out, rfl, by rw [← XS.out], rfl, S1.out, Q1.out⟩, msr LT.out⟩
    · have kl : ¬ (k : Int) < 8 := by omega
      have ek : k = 8 := by omega
      subst ek
      clear hlt hk
      go_wp2
      go_ret
      exact ⟨_, rfl, HW.out, HQ.out⟩
set_option maxRecDepth 20000 in
set_option maxHeartbeats 4000000 in
theorem textR (B : Nat) (l : List Nat) (v : Value) (s : ByteArray) (w : World) (h : Sb B l v w) (hB : B ≤ w.heap.size) (hl : l.length ≤ 17592186044416) (hs : s.size ≤ 1048576) :
    Calls Tryz.prog 41 #[v, .string s] w fun e w' => ∃ v', e = .returned v' ∧ Sb B (l ++ tbN s) v' w' ∧ Bq B w w' := by
  obtain ⟨i0, hi, hz0, hz1, hz2⟩ := u8_info
  have N0 : Hid (∀ W, Sb B l v W → B ≤ W.heap.size → Calls Tryz.prog 42 #[v, .int .i64 s.size] W fun e w' => ∃ v', e = .returned v' ∧ Sb B (l ++ nbN s.size) v' w' ∧ Bq B W w') := fun W hW hb => numR B l v _ W hW hb (by omega)
  have H : Hid (Sb B l v w) := h
  have HB : Hid (B ≤ w.heap.size) := hB
  have SZ : Hid ((l ++ nbN s.size).length + s.size ≤ 17592188000000) := by show _ ≤ _; rw [List.length_append, nbN_len]; omega
  clear h hB hl hs
  go_enter Tryz.func41, Tryz.ntmps41
  go_wp2_with (go_at_call 42; refine (N0.out _ H.out HB.out).mono ?_)
  first | (rintro e w1 ⟨v1, he, h1, hb1⟩; have he' := he) | (rintro e w1 v1 he h1 hb1)
  subst he
  have H1 : Hid (Sb B (l ++ nbN s.size) v1 w1) := h1
  have Q1 : Hid (Bq B w w1) := hb1
  have BW : Hid (B ≤ w1.heap.size) := Nat.le_trans HB.out hb1.b.size
  clear h1 hb1 N0 H
  obtain ⟨ux, un, uc, rfl⟩ := H1.out.form
  go_wp2_with (at_builtin; refine Lib.wpList_append_own_string _ rfl _ _ 28 9 rfl B 5 i0 Tryz.underlying28 Tryz.underlying9 hi hz0 hz1 hz2 _ _ _ rfl H1.out s rfl ?c3 ?c4 ?c5 ?_)
  case c3 => have := SZ.out; unfold maxLen; omega
  case c4 => have := SZ.out; omega
  case c5 => exact BW.out
  intro v' w2 k1 k2 k3
  have S2 : Hid (Sb B (l ++ tbN s) v' w2) := by
    show Sb _ _ _ _
    unfold tbN
    rw [← List.append_assoc]
    exact Sb.app k1 (by rw [sbN_len, List.length_append]) (by rw [sbN_str])
  have Q2 : Hid (Bq B w w2) := Q1.out.grown H1.out k2 BW.out
  obtain ⟨tx, tn, tc, rfl⟩ := S2.out.form
  clear k1 k2 k3
  go_wp2
  go_ret
  exact ⟨_, rfl, S2.out, Q2.out⟩
set_option maxRecDepth 20000 in
set_option maxHeartbeats 4000000 in
theorem valueR (B : Nat) (l : List Nat) (v : Value) (k b : Int) (s : ByteArray) (w : World) (h : Sb B l v w) (hB : B ≤ w.heap.size) (hl : l.length ≤ 8796093022208) (hs : s.size ≤ 1048576) (hk : 0 ≤ k ∧ k < 256) :
    Calls Tryz.prog 44 #[v, .agg #[.int .u8 k, .int .u64 b, .string s]] w fun e w' => ∃ v', e = .returned v' ∧ Sb B (l ++ vbN k b s) v' w' ∧ Bq B w w' := by
  obtain ⟨i0, hi, hz0, hz1, hz2⟩ := u8_info
  obtain ⟨sx, sn, sc, rfl⟩ := h.form
  have KK : Hid (k = ((k % (256 : Int)).toNat : Int)) := by show _ = _; rw [by_nat]; omega
  have N0 : Hid (∀ V W, Sb B (l ++ [(k % (256 : Int)).toNat]) V W → B ≤ W.heap.size → Calls Tryz.prog 42 #[V, .int .i64 (wrap64 b)] W fun e w' => ∃ v', e = .returned v' ∧ Sb B (l ++ [(k % (256 : Int)).toNat] ++ nbN (wrap64 b)) v' w' ∧ Bq B W w') := fun V W hW hb => numR B _ V _ W hW hb (by rw [List.length_append]; simp; omega)
  have T0 : Hid (∀ V W, Sb B (l ++ [(k % (256 : Int)).toNat] ++ nbN (wrap64 b)) V W → B ≤ W.heap.size → Calls Tryz.prog 41 #[V, .string s] W fun e w' => ∃ v', e = .returned v' ∧ Sb B (l ++ vbN k b s) v' w' ∧ Bq B W w') := fun V W hW hb => by
    have e : l ++ vbN k b s = l ++ [(k % (256 : Int)).toNat] ++ nbN (wrap64 b) ++ tbN s := by unfold vbN; simp only [List.append_assoc]
    rw [e]
    exact textR B _ V s W hW hb (by rw [List.length_append, List.length_append, nbN_len]; simp; omega) hs
  obtain ⟨AW, eW⟩ : ∃ AW, AW = w.alloc (.cells #[.int .u8 k, .int .u64 b, .string s] 40 (0, 0)) := ⟨_, rfl⟩
  have AX : Hid (AW.heap[w.heap.size]? = some (.cells #[.int .u8 k, .int .u64 b, .string s] 40 (0, 0))) := by rw [eW]; exact heap_alloc_last _ _
  have AB : Hid (Below w.heap.size w AW) := by rw [eW]; exact (Below.refl _ _).alloc (Nat.le_refl _) _
  have QA : Hid (Bq B w AW) := Bq.up AB.out hB
  have H0 : Hid (Sb B l (.slice sx sn sc) AW) := h.below AB.out
  have BA : Hid (B ≤ AW.heap.size) := Nat.le_trans hB AB.out.size
  have SZ : Hid (l.length ≤ 8796093022208) := hl
  clear h hl hs hk hB
  have i0' : AW.cell? ⟨w.heap.size, 0, none⟩ = some (.int .u8 k) := by simp [World.cell?, AX.out]
  have GA : Hid (∀ X : Obj, Below AW.heap.size AW (AW.alloc X)) := fun X => (Below.refl _ _).alloc (Nat.le_refl _) _
  go_enter Tryz.func44, Tryz.ntmps44
  go_upto_region 1 with fail
  rw [← eW]
  clear eW
  go_wp2_with (at_builtin; refine wpList_append_own _ rfl _ _ 28 rfl B 5 i0 _ 1 1 Tryz.underlying28 hi hz0 hz1 hz2 rfl (by decide) _ l.length (bvL l) rfl (H0.out.below (GA.out _)) ⟨AW.heap.size, 0, none⟩ 1 1 [.int .u8 k] rfl rfl (cell_one_new _ _ _) (by simp [Value.oneCell']) (by have := SZ.out; unfold maxLen; omega) (by have := SZ.out; omega) (by have := BA.out; simp; omega) ?_)
  intro v' w1 k1 k2 k3
  have S1 : Hid (Sb B (l ++ [(k % (256 : Int)).toNat]) v' w1) := by
    have q := k1
    rw [KK.out] at q
    exact one_app q
  have Q1 : Hid (Bq B AW w1) := (Bq.up (GA.out _) BA.out).grown (H0.out.below (GA.out _)) k2 (by have := BA.out; simp; omega)
  obtain ⟨ux, un, uc, rfl⟩ := S1.out.form
  have X1 := Q1.out.k _ _ _ _ AX.out (by decide) (by decide)
  have i1 : w1.cell? ⟨w.heap.size, 1, none⟩ = some (.int .u64 b) := by simp [World.cell?, X1]
  clear k1 k2 k3 i0' X1
  go_wp2_with (go_at_call 42; refine (N0.out _ _ S1.out (Nat.le_trans BA.out Q1.out.b.size)).mono ?_)
  first | (rintro e w2 ⟨v2, he, h1, hb1⟩; have he' := he) | (rintro e w2 v2 he h1 hb1)
  subst he
  have S2 : Hid (Sb B (l ++ [(k % (256 : Int)).toNat] ++ nbN (wrap64 b)) v2 w2) := h1
  have Q2 : Hid (Bq B AW w2) := Q1.out.trans hb1
  obtain ⟨tx, tn, tc, rfl⟩ := h1.form
  have X2 := Q2.out.k _ _ _ _ AX.out (by decide) (by decide)
  have i2 : w2.cell? ⟨w.heap.size, 2, none⟩ = some (.string s) := by simp [World.cell?, X2]
  clear h1 hb1 i1 X2
  go_wp2_with (go_at_call 41; refine (T0.out _ _ S2.out (Nat.le_trans BA.out Q2.out.b.size)).mono ?_)
  first | (rintro e w3 ⟨v3, he, h1, hb1⟩; have he' := he) | (rintro e w3 v3 he h1 hb1)
  subst he
  have S3 : Hid (Sb B (l ++ vbN k b s) v3 w3) := h1
  have Q3 : Hid (Bq B w w3) := QA.out.trans (Q2.out.trans hb1)
  obtain ⟨zx, zn, zc, rfl⟩ := h1.form
  clear h1 hb1 i2
  go_wp2
  go_ret
  exact ⟨_, rfl, S3.out, Q3.out⟩
set_option maxRecDepth 20000 in
set_option maxHeartbeats 4000000 in
theorem numbersR (B : Nat) (bs : List Nat) (v : Value) (l : List Int) (x : Option Addr) (c : Nat) (w : World) {S : Nat → Prop} (h : Sb B bs v w) (hB : B ≤ w.heap.size) (hS : ∀ b, S b → b < B) (ha : RwF 1 (Is inC) S w x l) (hl : bs.length + 8 + l.length * 8 ≤ 8796093022208) (hn : l.length ≤ 1048576) :
    Calls Tryz.prog 46 #[v, .slice x l.length c] w fun e w' => ∃ v', e = .returned v' ∧ Sb B (bs ++ lsN nbN l) v' w' ∧ Bq B w w' := by
  have HB : Hid (B ≤ w.heap.size) := hB
  have HA : Hid (∀ V, Bq B w V → RwF 1 (Is inC) S V x l) := fun V hV => ha.fr (fun q hq => hV.b.cell (hS _ hq))
  have HN : Hid (l.length ≤ 1048576) := hn
  have N0 : Hid (∀ W, Sb B bs v W → B ≤ W.heap.size → Calls Tryz.prog 42 #[v, .int .i64 l.length] W fun e w' => ∃ v', e = .returned v' ∧ Sb B (bs ++ nbN l.length) v' w' ∧ Bq B W w') := fun W hW hb => numR B bs v _ W hW hb (by omega)
  have R0 : Hid (∀ (k : Nat) s V W, l[k]? = some s → Sb B (bs ++ nbN l.length ++ (l.take k).flatMap nbN) V W → B ≤ W.heap.size → Calls Tryz.prog 42 #[V, .int .i64 s] W fun e w' => ∃ v', e = .returned v' ∧ Sb B (bs ++ nbN l.length ++ (l.take (k + 1)).flatMap nbN) v' w' ∧ Bq B W w') := fun k s V W hk hW hb => by
    have e : bs ++ nbN l.length ++ (l.take (k + 1)).flatMap nbN = bs ++ nbN l.length ++ (l.take k).flatMap nbN ++ nbN s := by rw [List.take_add_one, hk, List.flatMap_append]; simp [List.append_assoc]
    rw [e]
    have q := flat_le nbN 8 (l.take k) (fun e _ => by rw [nbN_len]; omega)
    have q2 := List.length_take_le' k l
    exact numR B _ V s W hW hb (by rw [List.length_append, List.length_append, nbN_len]; omega)
  have H : Hid (Sb B bs v w) := h
  clear h hB ha hl hn
  go_enter Tryz.func46, Tryz.ntmps46
  go_wp2_with (go_at_call 42; refine (N0.out _ H.out HB.out).mono ?_)
  first | (rintro e w1 ⟨v1, he, h1, hb1⟩; have he' := he) | (rintro e w1 v1 he h1 hb1)
  subst he
  have S1 : Hid (Sb B (bs ++ nbN l.length) v1 w1) := h1
  have Q1 : Hid (Bq B w w1) := hb1
  obtain ⟨tx, tn, tc, rfl⟩ := h1.form
  clear h1 hb1 N0 H
  go_upto_region 2 with fail
  go_upto_region 3 with fail
  go_loopw [0, 5] (fun u i wr => ∃ (k : Nat) (sx : Option Addr) (sn sc : Nat), k ≤ l.length ∧ u = .slice sx sn sc ∧ i = .int .i64 k ∧ Sb B (bs ++ nbN l.length ++ (l.take k).flatMap nbN) (.slice sx sn sc) wr ∧ Bq B w wr) (fun _ i _ => l.length - (intOf i).toNat)
  case atStart => exact ⟨0, _, _, _, Nat.zero_le _, rfl, rfl, by rw [List.take_zero, List.flatMap_nil, List.append_nil]; exact S1.out, Q1.out⟩
  case round =>
    obtain ⟨k, sx, sn, sc, hk, rfl, rfl, hw, hb⟩ := hrel
    have HW : Hid (Sb B (bs ++ nbN l.length ++ (l.take k).flatMap nbN) (.slice sx sn sc) wr) := hw
    have HQ : Hid (Bq B w wr) := hb
    clear hw hb S1 Q1
    by_cases hlt : k < l.length
    · obtain ⟨a, rfl⟩ := (HA.out wr HQ.out).some (by omega)
      obtain ⟨s, sv, se, sb, rfl, sk⟩ := (HA.out wr HQ.out).el k hlt
      have e0 := sk.c0
      rw [Nat.mul_one] at e0
      have SE : Hid (l[k]? = some s) := se
      have LT : Hid (k < l.length) := hlt
      have kl : (k : Int) < l.length := by omega
      have ek : wrap64 ((k : Int) + 1) = (k : Int) + 1 := by have := HN.out; unfold wrap64; omega
      clear hlt se sk sb hk
      go_wp2_with (go_at_call 42; refine (R0.out k s _ _ SE.out HW.out (Nat.le_trans HB.out HQ.out.b.size)).mono ?_)
      first | (rintro e w2 ⟨v2, he, h1, hb1⟩; have he' := he) | (rintro e w2 v2 he h1 hb1)
      subst he
      have H2 : Hid (Sb B (bs ++ nbN l.length ++ (l.take (k + 1)).flatMap nbN) v2 w2) := h1
      have Q2 : Hid (Bq B w w2) := HQ.out.trans hb1
      obtain ⟨ux, un, uc, rfl⟩ := h1.form
      clear h1 hb1 e0
      go_wp2
      try rw [ek]
      exact ⟨⟨k + 1, ux, un, uc, Nat.succ_le_of_lt LT.out, rfl, rfl, H2.out, Q2.out⟩, msrE LT.out⟩
    · have kl : ¬ (k : Int) < l.length := by omega
      have ek : k = l.length := by omega
      subst ek
      rw [List.take_length, List.append_assoc] at HW
      clear hlt hk
      go_wp2
      go_ret
      exact ⟨_, rfl, HW.out, HQ.out⟩
end Go.Proofs.YtpcjnhffpkpchaaGreat
namespace Go.Proofs.YtpcjnhffpkpchaaGreat
set_option linter.unusedVariables false
open Go.RowKit
theorem nsN_cons (a : Int) (l : List Int) : nsN (a :: l) = nbN a ++ nsN l := rfl
theorem nsN_nil : nsN [] = [] := rfl
set_option maxRecDepth 20000 in
set_option maxHeartbeats 8000000 in
theorem flatR (B : Nat) (bs : List Nat) (v : Value) (f : FlR) (x1 x2 : Option Addr) (p1 p2 : Nat) (w : World) {S : Nat → Prop} (h : Sb B bs v w) (hB : B ≤ w.heap.size) (hS : ∀ b, S b → b < B) (hq : FlQ S w f x1 x2) (ho : FlS f) (hl : bs.length ≤ 6000000000000) :
    Calls Tryz.prog 45 #[v, FlV f x1 x2 p1 p2] w fun e w' => ∃ v', e = .returned v' ∧ Sb B (bs ++ flbN f) v' w' ∧ Bq B w w' := by
  obtain ⟨sx, sn, sc, rfl⟩ := h.form
  have OK : Hid (FlS f) := ho
  obtain ⟨AW, eW⟩ : ∃ AW, AW = w.alloc (.cells #[.string f.nm, .int .i64 f.wh, .int .i64 f.ce, .int .i64 f.ba, .int .i64 f.rg, .int .i64 f.sl, .slice x1 f.os.length p1, .slice x2 f.ls.length p2] 64 (0, 0)) := ⟨_, rfl⟩
  have AX : Hid (AW.heap[w.heap.size]? = some (.cells #[.string f.nm, .int .i64 f.wh, .int .i64 f.ce, .int .i64 f.ba, .int .i64 f.rg, .int .i64 f.sl, .slice x1 f.os.length p1, .slice x2 f.ls.length p2] 64 (0, 0))) := by rw [eW]; exact heap_alloc_last _ _
  have AB : Hid (Below w.heap.size w AW) := by rw [eW]; exact (Below.refl _ _).alloc (Nat.le_refl _) _
  have QA : Hid (Bq B w AW) := Bq.up AB.out hB
  have BQ : Hid (∀ V, Bq B AW V → B ≤ V.heap.size) := fun V hV => Nat.le_trans (Nat.le_trans hB AB.out.size) hV.b.size
  have RO : Hid (∀ V, Bq B AW V → RwF 10 (Is opC) S V x1 f.os) := fun V hV => hq.1.fr (fun q hqq => (QA.out.trans hV).b.cell (hS _ hqq))
  have RL : Hid (∀ V, Bq B AW V → RwF 3 (Is lpC) S V x2 f.ls) := fun V hV => hq.2.fr (fun q hqq => (QA.out.trans hV).b.cell (hS _ hqq))
  have nmz : f.nm.size ≤ 1048576 := ho.1.1
  have N1 : Hid (f.os.length ≤ 16384) := ho.2.1
  have N2 : Hid (f.ls.length ≤ 16384) := ho.2.2
  obtain ⟨bz0, eb⟩ : ∃ z, z = bs := ⟨_, rfl⟩
  have E0 : Hid (bz0 = bs) := eb
  obtain ⟨w0, ew0⟩ : ∃ z, z = AW := ⟨_, rfl⟩
  have S0 : Hid (Sb B bz0 (.slice sx sn sc) w0) := by rw [eb, ew0]; exact h.below AB.out
  have Q0 : Hid (Bq B AW w0) := by rw [ew0]; exact Bq.refl _ _
  have L0 : Hid (bz0.length ≤ 6000000000000) := by rw [eb]; exact hl
  clear h hB hS hq ho hl eb
  go_enter Tryz.func45, Tryz.ntmps45
  go_upto_region 1 with fail
  rw [← eW, ← ew0]
  clear eW ew0
  have X := Q0.out.k _ _ _ _ AX.out (by decide) (by decide)
  have i0 : w0.cell? ⟨w.heap.size, 0, none⟩ = some (.string f.nm) := by simp [World.cell?, X]
  clear X
  go_wp2_with (go_at_call 41; refine (textR B _ _ _ _ S0.out (BQ.out _ Q0.out) (by have := L0.out; omega) nmz).mono ?_)
  first | (rintro e w1 ⟨v1, he, h1, hb1⟩; have he' := he) | (rintro e w1 v1 he h1 hb1)
  have hsz : f.nm.size ≤ 1048576 := nmz
  subst he
  have Q1 : Hid (Bq B AW w1) := Q0.out.trans hb1
  obtain ⟨bz1, ez⟩ : ∃ z, z = bz0 ++ tbN f.nm := ⟨_, rfl⟩
  rw [← ez] at h1
  have S1 : Hid (Sb B bz1 v1 w1) := h1
  have E1 : Hid (bz1 = bz0 ++ tbN f.nm) := ez
  have L1 : Hid (bz1.length ≤ 6000001048584) := by show _ ≤ _; rw [ez, List.length_append, tbN_len]; have := L0.out; omega
  obtain ⟨tx1, tn1, tc1, rfl⟩ := h1.form
  clear h1 hb1 ez hsz i0
  have X := Q1.out.k _ _ _ _ AX.out (by decide) (by decide)
  have i1 : w1.cell? ⟨w.heap.size, 1, none⟩ = some (.int .i64 f.wh) := by simp [World.cell?, X]
  clear X
  go_wp2_with (go_at_call 42; refine (numR B _ _ _ _ S1.out (BQ.out _ Q1.out) (by have := L1.out; omega)).mono ?_)
  first | (rintro e w2 ⟨v2, he, h1, hb1⟩; have he' := he) | (rintro e w2 v2 he h1 hb1)
  subst he
  have Q2 : Hid (Bq B AW w2) := Q1.out.trans hb1
  obtain ⟨bz2, ez⟩ : ∃ z, z = bz1 ++ nbN f.wh := ⟨_, rfl⟩
  rw [← ez] at h1
  have S2 : Hid (Sb B bz2 v2 w2) := h1
  have E2 : Hid (bz2 = bz1 ++ nbN f.wh) := ez
  have L2 : Hid (bz2.length ≤ 6000001048592) := by show _ ≤ _; rw [ez, List.length_append, nbN_len]; have := L1.out; omega
  obtain ⟨tx2, tn2, tc2, rfl⟩ := h1.form
  clear h1 hb1 ez i1
  have X := Q2.out.k _ _ _ _ AX.out (by decide) (by decide)
  have i2 : w2.cell? ⟨w.heap.size, 2, none⟩ = some (.int .i64 f.ce) := by simp [World.cell?, X]
  clear X
  go_wp2_with (go_at_call 42; refine (numR B _ _ _ _ S2.out (BQ.out _ Q2.out) (by have := L2.out; omega)).mono ?_)
  first | (rintro e w3 ⟨v3, he, h1, hb1⟩; have he' := he) | (rintro e w3 v3 he h1 hb1)
  subst he
  have Q3 : Hid (Bq B AW w3) := Q2.out.trans hb1
  obtain ⟨bz3, ez⟩ : ∃ z, z = bz2 ++ nbN f.ce := ⟨_, rfl⟩
  rw [← ez] at h1
  have S3 : Hid (Sb B bz3 v3 w3) := h1
  have E3 : Hid (bz3 = bz2 ++ nbN f.ce) := ez
  have L3 : Hid (bz3.length ≤ 6000001048600) := by show _ ≤ _; rw [ez, List.length_append, nbN_len]; have := L2.out; omega
  obtain ⟨tx3, tn3, tc3, rfl⟩ := h1.form
  clear h1 hb1 ez i2
  have X := Q3.out.k _ _ _ _ AX.out (by decide) (by decide)
  have i3 : w3.cell? ⟨w.heap.size, 3, none⟩ = some (.int .i64 f.ba) := by simp [World.cell?, X]
  clear X
  go_wp2_with (go_at_call 42; refine (numR B _ _ _ _ S3.out (BQ.out _ Q3.out) (by have := L3.out; omega)).mono ?_)
  first | (rintro e w4 ⟨v4, he, h1, hb1⟩; have he' := he) | (rintro e w4 v4 he h1 hb1)
  subst he
  have Q4 : Hid (Bq B AW w4) := Q3.out.trans hb1
  obtain ⟨bz4, ez⟩ : ∃ z, z = bz3 ++ nbN f.ba := ⟨_, rfl⟩
  rw [← ez] at h1
  have S4 : Hid (Sb B bz4 v4 w4) := h1
  have E4 : Hid (bz4 = bz3 ++ nbN f.ba) := ez
  have L4 : Hid (bz4.length ≤ 6000001048608) := by show _ ≤ _; rw [ez, List.length_append, nbN_len]; have := L3.out; omega
  obtain ⟨tx4, tn4, tc4, rfl⟩ := h1.form
  clear h1 hb1 ez i3
  have X := Q4.out.k _ _ _ _ AX.out (by decide) (by decide)
  have i4 : w4.cell? ⟨w.heap.size, 4, none⟩ = some (.int .i64 f.rg) := by simp [World.cell?, X]
  clear X
  go_wp2_with (go_at_call 42; refine (numR B _ _ _ _ S4.out (BQ.out _ Q4.out) (by have := L4.out; omega)).mono ?_)
  first | (rintro e w5 ⟨v5, he, h1, hb1⟩; have he' := he) | (rintro e w5 v5 he h1 hb1)
  subst he
  have Q5 : Hid (Bq B AW w5) := Q4.out.trans hb1
  obtain ⟨bz5, ez⟩ : ∃ z, z = bz4 ++ nbN f.rg := ⟨_, rfl⟩
  rw [← ez] at h1
  have S5 : Hid (Sb B bz5 v5 w5) := h1
  have E5 : Hid (bz5 = bz4 ++ nbN f.rg) := ez
  have L5 : Hid (bz5.length ≤ 6000001048616) := by show _ ≤ _; rw [ez, List.length_append, nbN_len]; have := L4.out; omega
  obtain ⟨tx5, tn5, tc5, rfl⟩ := h1.form
  clear h1 hb1 ez i4
  have X := Q5.out.k _ _ _ _ AX.out (by decide) (by decide)
  have i5 : w5.cell? ⟨w.heap.size, 5, none⟩ = some (.int .i64 f.sl) := by simp [World.cell?, X]
  clear X
  go_wp2_with (go_at_call 42; refine (numR B _ _ _ _ S5.out (BQ.out _ Q5.out) (by have := L5.out; omega)).mono ?_)
  first | (rintro e w6 ⟨v6, he, h1, hb1⟩; have he' := he) | (rintro e w6 v6 he h1 hb1)
  subst he
  have Q6 : Hid (Bq B AW w6) := Q5.out.trans hb1
  obtain ⟨bz6, ez⟩ : ∃ z, z = bz5 ++ nbN f.sl := ⟨_, rfl⟩
  rw [← ez] at h1
  have S6 : Hid (Sb B bz6 v6 w6) := h1
  have E6 : Hid (bz6 = bz5 ++ nbN f.sl) := ez
  have L6 : Hid (bz6.length ≤ 6000001048624) := by show _ ≤ _; rw [ez, List.length_append, nbN_len]; have := L5.out; omega
  obtain ⟨tx6, tn6, tc6, rfl⟩ := h1.form
  clear h1 hb1 ez i5
  have X := Q6.out.k _ _ _ _ AX.out (by decide) (by decide)
  have i6 : w6.cell? ⟨w.heap.size, 6, none⟩ = some (.slice x1 f.os.length p1) := by simp [World.cell?, X]
  clear X
  go_wp2_with (go_at_call 42; refine (numR B _ _ _ _ S6.out (BQ.out _ Q6.out) (by have := L6.out; omega)).mono ?_)
  first | (rintro e w7 ⟨v7, he, h1, hb1⟩; have he' := he) | (rintro e w7 v7 he h1 hb1)
  subst he
  have Q7 : Hid (Bq B AW w7) := Q6.out.trans hb1
  obtain ⟨bz7, ez⟩ : ∃ z, z = bz6 ++ nbN f.os.length := ⟨_, rfl⟩
  rw [← ez] at h1
  have S7 : Hid (Sb B bz7 v7 w7) := h1
  have E7 : Hid (bz7 = bz6 ++ nbN f.os.length) := ez
  have L7 : Hid (bz7.length ≤ 6000001048632) := by show _ ≤ _; rw [ez, List.length_append, nbN_len]; have := L6.out; omega
  obtain ⟨tx7, tn7, tc7, rfl⟩ := h1.form
  clear h1 hb1 ez i6
  have PF : Hid (bz7 = bs ++ tbN f.nm ++ nsN [f.wh, f.ce, f.ba, f.rg, f.sl] ++ nbN f.os.length) := by show _ = _; rw [E7.out, E6.out, E5.out, E4.out, E3.out, E2.out, E1.out, E0.out]; simp only [nsN_cons, nsN_nil, List.append_assoc, List.nil_append]
  clear E0 E1 E2 E3 E4 E5 E6 E7 S0 L0 S1 L1 S2 L2 S3 L3 S4 L4 S5 L5 S6 L6
  go_upto_region 8 with fail
  go_upto_region 9 with fail
  have PT : Hid (∀ k, (bz7 ++ (f.os.take k).flatMap obN).length ≤ 6017182113848) := fun k => by
    have q := flat_le obN 1048649 (f.os.take k) (fun e he => by rw [obN_len]; have q1 : e.vs.size ≤ 1048576 := (OK.out.1.2.2.2.2.2.2.1 e (List.mem_of_mem_take he)).2.2.2.2.2.2.2.2.2; omega)
    have q2 : (f.os.take k).length ≤ 16384 := Nat.le_trans (List.length_take_le' k f.os) N1.out
    rw [List.length_append]
    have := L7.out
    have : (f.os.take k).length * 1048649 ≤ 16384 * 1048649 := Nat.mul_le_mul_right _ q2
    omega
  go_loopw [0, 5] (fun u i wr => ∃ (k : Nat) (sx : Option Addr) (sn sc : Nat), k ≤ f.os.length ∧ u = .slice sx sn sc ∧ i = .int .i64 k ∧ Sb B (bz7 ++ (f.os.take k).flatMap obN) (.slice sx sn sc) wr ∧ Bq B AW wr) (fun _ i _ => f.os.length - (intOf i).toNat)
  case atStart => exact ⟨0, _, _, _, Nat.zero_le _, rfl, rfl, by rw [List.take_zero, List.flatMap_nil, List.append_nil]; exact S7.out, Q7.out⟩
  case round =>
    obtain ⟨k, sx, sn, sc, hk, rfl, rfl, hw, hb⟩ := hrel
    have HW : Hid (Sb B (bz7 ++ (f.os.take k).flatMap obN) (.slice sx sn sc) wr) := hw
    have HQ : Hid (Bq B AW wr) := hb
    clear hw hb
    have X := HQ.out.k _ _ _ _ AX.out (by decide) (by decide)
    have i6 : wr.cell? ⟨w.heap.size, 6, none⟩ = some (.slice x1 f.os.length p1) := by simp [World.cell?, X]
    have i7 : wr.cell? ⟨w.heap.size, 7, none⟩ = some (.slice x2 f.ls.length p2) := by simp [World.cell?, X]
    clear X
    by_cases hlt : k < f.os.length
    · obtain ⟨a, rfl⟩ := (RO.out wr HQ.out).some (by omega)
      obtain ⟨o, ov, oe, ob, rfl, ok⟩ := (RO.out wr HQ.out).el k hlt
      have e0 := ok.c0
      have e1 := ok.cp 0 _ rfl
      have e2 := ok.cp 1 _ rfl
      have e3 := ok.cp 2 _ rfl
      have e4 := ok.cp 3 _ rfl
      have e5 := ok.cp 4 _ rfl
      have e6 := ok.cp 5 _ rfl
      have e7 := ok.cp 6 _ rfl
      have e8 := ok.cp 7 _ rfl
      have e9 := ok.cp 8 _ rfl
      have OO : Hid (OpOk o) := OK.out.1.2.2.2.2.2.2.1 o (List.mem_of_getElem? oe)
      have TK : Hid (bz7 ++ (f.os.take (k + 1)).flatMap obN = bz7 ++ (f.os.take k).flatMap obN ++ (nsN [o.cd, o.a, o.b, o.c, o.d, o.lo, o.hi] ++ vbN o.vk o.vb o.vs)) := by show _ = _; rw [List.take_add_one, oe, List.flatMap_append]; simp [obN, List.append_assoc]
      have PK := PT.out k
      have LT : Hid (k < f.os.length) := hlt
      have kl : (k : Int) < f.os.length := by omega
      have ek : wrap64 ((k : Int) + 1) = (k : Int) + 1 := by have := N1.out; unfold wrap64; omega
      have za := block_lt_of_cell e0
      obtain ⟨AO, eO⟩ : ∃ AO, AO = wr.alloc (.cells #[.int .i64 o.cd, .int .i64 o.a, .int .i64 o.b, .int .i64 o.c, .int .i64 o.d, .int .i64 o.lo, .int .i64 o.hi, .int .u8 o.vk, .int .u64 o.vb, .string o.vs] 86 (0, 0)) := ⟨_, rfl⟩
      have OX : Hid (AO.heap[wr.heap.size]? = some (.cells #[.int .i64 o.cd, .int .i64 o.a, .int .i64 o.b, .int .i64 o.c, .int .i64 o.d, .int .i64 o.lo, .int .i64 o.hi, .int .u8 o.vk, .int .u64 o.vb, .string o.vs] 86 (0, 0))) := by rw [eO]; exact heap_alloc_last _ _
      have OB : Hid (Below wr.heap.size wr AO) := by rw [eO]; exact (Below.refl _ _).alloc (Nat.le_refl _) _
      obtain ⟨AI, eI⟩ : ∃ AI, AI = AO.alloc (.cells #[.int .i64 o.cd, .int .i64 o.a, .int .i64 o.b, .int .i64 o.c, .int .i64 o.d, .int .i64 o.lo, .int .i64 o.hi] 3 (0, 0)) := ⟨_, rfl⟩
      have IX : Hid (AI.heap[AO.heap.size]? = some (.cells #[.int .i64 o.cd, .int .i64 o.a, .int .i64 o.b, .int .i64 o.c, .int .i64 o.d, .int .i64 o.lo, .int .i64 o.hi] 3 (0, 0))) := by rw [eI]; exact heap_alloc_last _ _
      have IB : Hid (Below AO.heap.size AO AI) := by rw [eI]; exact (Below.refl _ _).alloc (Nat.le_refl _) _
      have QO : Hid (Bq B AW AI) := HQ.out.trans (Bq.up (OB.out.trans (IB.out.mono OB.out.size)) (BQ.out _ HQ.out))
      have SO : Hid (Sb B (bz7 ++ (f.os.take k).flatMap obN) (.slice sx sn sc) AI) := HW.out.below (OB.out.trans (IB.out.mono OB.out.size))
      have OXI : Hid (AI.heap[wr.heap.size]? = some (.cells #[.int .i64 o.cd, .int .i64 o.a, .int .i64 o.b, .int .i64 o.c, .int .i64 o.d, .int .i64 o.lo, .int .i64 o.hi, .int .u8 o.vk, .int .u64 o.vb, .string o.vs] 86 (0, 0))) := (IB.out.block _ (blk_in OX.out)).trans OX.out
      clear hlt oe ob ok hk
      go_upto_region 12 with fail
      rw [← eO]
      clear eO za e0 e1 e2 e3 e4 e5 e6 e7 e8 e9
      have g0 : AO.cell? ⟨wr.heap.size, 0, none⟩ = some (.int .i64 o.cd) := by simp [World.cell?, OX.out]
      have g1 : AO.cell? ⟨wr.heap.size, 1, none⟩ = some (.int .i64 o.a) := by simp [World.cell?, OX.out]
      have g2 : AO.cell? ⟨wr.heap.size, 2, none⟩ = some (.int .i64 o.b) := by simp [World.cell?, OX.out]
      have g3 : AO.cell? ⟨wr.heap.size, 3, none⟩ = some (.int .i64 o.c) := by simp [World.cell?, OX.out]
      have g4 : AO.cell? ⟨wr.heap.size, 4, none⟩ = some (.int .i64 o.d) := by simp [World.cell?, OX.out]
      have g5 : AO.cell? ⟨wr.heap.size, 5, none⟩ = some (.int .i64 o.lo) := by simp [World.cell?, OX.out]
      have g6 : AO.cell? ⟨wr.heap.size, 6, none⟩ = some (.int .i64 o.hi) := by simp [World.cell?, OX.out]
      go_upto_region 13 with fail
      rw [← eI]
      clear eI g0 g1 g2 g3 g4 g5 g6 i6 i7 OX
      generalize bz7 ++ (f.os.take k).flatMap obN = by0 at *
      obtain ⟨is, eis⟩ : ∃ is : List Int, is = [o.cd, o.a, o.b, o.c, o.d, o.lo, o.hi] := ⟨_, rfl⟩
      have ISL : Hid (is.length = 7) := by rw [eis]; rfl
      have ISE : Hid (is = [o.cd, o.a, o.b, o.c, o.d, o.lo, o.hi]) := eis
      have IXS : Hid (∀ V, Bq B AI V → ∀ (j : Nat) z, is[j]? = some z → V.cell? ⟨AO.heap.size, j, none⟩ = some (.int .i64 z)) := fun V hV j z hj => by
        have e := hV.k _ _ _ _ IX.out (by decide) (by decide)
        rw [World.cell?, e]
        rw [eis] at hj
        match j, hj with
        | 0, hj => cases hj; rfl
        | 1, hj => cases hj; rfl
        | 2, hj => cases hj; rfl
        | 3, hj => cases hj; rfl
        | 4, hj => cases hj; rfl
        | 5, hj => cases hj; rfl
        | 6, hj => cases hj; rfl
        | j + 7, hj => simp at hj
      clear eis
      have BQI : Hid (∀ V, Bq B AI V → B ≤ V.heap.size) := fun V hV => Nat.le_trans (BQ.out _ QO.out) hV.b.size
      obtain ⟨WO, eWO⟩ : ∃ W, W = wr := ⟨_, rfl⟩
      subst eWO
      go_upto_region 14 with fail
      go_loopw [0, 8] (fun u i wr => ∃ (j : Nat) (sx : Option Addr) (sn sc : Nat), j ≤ 7 ∧ u = .slice sx sn sc ∧ i = .int .i64 j ∧ Sb B (by0 ++ nsN (is.take j)) (.slice sx sn sc) wr ∧ Bq B AI wr) (fun _ i _ => 7 - (intOf i).toNat)
      case atStart => exact ⟨0, _, _, _, Nat.zero_le _, rfl, rfl, by rw [List.take_zero, nsN_nil, List.append_nil]; exact SO.out, Bq.refl _ _⟩
      case round =>
        obtain ⟨j, zx, zn, zc, hj, rfl, rfl, hw, hb⟩ := hrel
        have HW2 : Hid (Sb B (by0 ++ nsN (is.take j)) (.slice zx zn zc) wr) := hw
        have HQ2 : Hid (Bq B AI wr) := hb
        clear hw hb
        by_cases jlt : j < 7
        · obtain ⟨z, hz⟩ : ∃ z, is[j]? = some z := ⟨_, List.getElem?_eq_getElem (by rw [ISL.out]; exact jlt)⟩
          have c0 := IXS.out wr HQ2.out j z hz
          have NZ : Hid (by0 ++ nsN (is.take (j + 1)) = by0 ++ nsN (is.take j) ++ nbN z) := by show _ = _; rw [nsN_succ hz, List.append_assoc]
          have LZ : Hid ((by0 ++ nsN (is.take j)).length ≤ 7000000000000) := by show _ ≤ _; rw [List.length_append, nsN_len, List.length_take]; omega
          have jl : (j : Int) < 7 := by omega
          have JL : Hid (j < 7) := jlt
          have ej : wrap64 ((j : Int) + 1) = (j : Int) + 1 := by unfold wrap64; omega
          clear jlt hz hj PK
          go_wp2_with (go_at_call 42; refine (numR B _ _ _ _ HW2.out (BQI.out _ HQ2.out) (by have := LZ.out; omega)).mono ?_)
          first | (rintro e w2 ⟨v2, he, h1, hb1⟩; have he' := he) | (rintro e w2 v2 he h1 hb1)
          subst he
          rw [← NZ.out] at h1
          have H2 : Hid (Sb B (by0 ++ nsN (is.take (j + 1))) v2 w2) := h1
          have Q2 : Hid (Bq B AI w2) := HQ2.out.trans hb1
          obtain ⟨ux, un, uc, rfl⟩ := h1.form
          clear h1 hb1 c0
          go_wp2
          try rw [ej]
          exact ⟨⟨j + 1, ux, un, uc, Nat.succ_le_of_lt JL.out, rfl, rfl, H2.out, Q2.out⟩, msrE JL.out⟩
        · have jl : ¬ (j : Int) < 7 := by omega
          have ej : j = 7 := by omega
          subst ej
          have HW3 : Hid (Sb B (by0 ++ nsN [o.cd, o.a, o.b, o.c, o.d, o.lo, o.hi]) (.slice zx zn zc) wr) := by have q := HW2.out; rw [show is.take 7 = is by rw [← ISL.out, List.take_length], ISE.out] at q; exact q
          have LZ : Hid ((by0 ++ nsN [o.cd, o.a, o.b, o.c, o.d, o.lo, o.hi]).length ≤ 7000000000000) := by show _ ≤ _; rw [List.length_append, nsN_len]; simp only [List.length_cons, List.length_nil]; omega
          have X := HQ2.out.k _ _ _ _ OXI.out (by decide) (by decide)
          have g7 : wr.cell? ⟨WO.heap.size, 7, none⟩ = some (.int .u8 o.vk) := by simp [World.cell?, X]
          have g8 : wr.cell? ⟨WO.heap.size, 8, none⟩ = some (.int .u64 o.vb) := by simp [World.cell?, X]
          have g9 : wr.cell? ⟨WO.heap.size, 9, none⟩ = some (.string o.vs) := by simp [World.cell?, X]
          clear X jlt hj PK HW2
          go_wp2_with (go_at_call 44; refine (valueR B _ _ _ _ _ _ HW3.out (BQI.out _ HQ2.out) (by have := LZ.out; omega) OO.out.2.2.2.2.2.2.2.2.2 (wf_u8 OO.out.2.2.2.2.2.2.2.1)).mono ?_)
          first | (rintro e w2 ⟨v2, he, h1, hb1⟩; have he' := he) | (rintro e w2 v2 he h1 hb1)
          subst he
          first | rw [List.append_assoc, ← TK.out] at h1 | rw [← TK.out] at h1
          have H2 : Hid (Sb B (bz7 ++ (f.os.take (k + 1)).flatMap obN) v2 w2) := h1
          have Q2 : Hid (Bq B AW w2) := QO.out.trans (HQ2.out.trans hb1)
          obtain ⟨ux, un, uc, rfl⟩ := h1.form
          clear h1 hb1 g7 g8 g9
          go_wp2
          try rw [ek]
          exact ⟨⟨k + 1, ux, un, uc, Nat.succ_le_of_lt LT.out, rfl, rfl, H2.out, Q2.out⟩, msrE LT.out⟩
    · have kl : ¬ (k : Int) < f.os.length := by omega
      have ek : k = f.os.length := by omega
      subst ek
      have PK := PT.out f.os.length
      rw [List.take_length] at HW PK
      obtain ⟨bz20, e20⟩ : ∃ z, z = bz7 ++ f.os.flatMap obN := ⟨_, rfl⟩
      have E20 : Hid (bz20 = bz7 ++ f.os.flatMap obN) := e20
      obtain ⟨w20, f20⟩ : ∃ z, z = wr := ⟨_, rfl⟩
      have S20 : Hid (Sb B bz20 (.slice sx sn sc) w20) := by rw [e20, f20]; exact HW.out
      have Q20 : Hid (Bq B AW w20) := by rw [f20]; exact HQ.out
      have L20 : Hid (bz20.length ≤ 6017182113848) := by rw [e20]; exact PK
      clear hlt hk HW HQ PK e20 PT S7 L7
      rw [← f20] at i6 i7
      rw [← f20]
      clear f20
      go_wp2_with (go_at_call 42; refine (numR B _ _ _ _ S20.out (BQ.out _ Q20.out) (by have := L20.out; omega)).mono ?_)
      first | (rintro e w21 ⟨v21, he, h1, hb1⟩; have he' := he) | (rintro e w21 v21 he h1 hb1)
      subst he
      have Q21 : Hid (Bq B AW w21) := Q20.out.trans hb1
      obtain ⟨bz21, ez⟩ : ∃ z, z = bz20 ++ nbN f.ls.length := ⟨_, rfl⟩
      rw [← ez] at h1
      have S21 : Hid (Sb B bz21 v21 w21) := h1
      have E21 : Hid (bz21 = bz20 ++ nbN f.ls.length) := ez
      have L21 : Hid (bz21.length ≤ 6017182113856) := by show _ ≤ _; rw [ez, List.length_append, nbN_len]; have := L20.out; omega
      obtain ⟨tx21, tn21, tc21, rfl⟩ := h1.form
      clear h1 hb1 ez i6 i7
      have i6 : True := trivial
      go_upto_region 19 with fail
      go_upto_region 20 with fail
      have PU : Hid (∀ k, (bz21 ++ (f.ls.take k).flatMap lbN).length ≤ 6017182507072) := fun k => by
        have q := flat_le lbN 24 (f.ls.take k) (fun e he => by rw [lbN_len]; omega)
        have q2 : (f.ls.take k).length ≤ 16384 := Nat.le_trans (List.length_take_le' k f.ls) N2.out
        rw [List.length_append]
        have := L21.out
        omega
      go_loopw [0, 9] (fun u i wr => ∃ (k : Nat) (sx : Option Addr) (sn sc : Nat), k ≤ f.ls.length ∧ u = .slice sx sn sc ∧ i = .int .i64 k ∧ Sb B (bz21 ++ (f.ls.take k).flatMap lbN) (.slice sx sn sc) wr ∧ Bq B AW wr) (fun _ i _ => f.ls.length - (intOf i).toNat)
      case atStart => exact ⟨0, _, _, _, Nat.zero_le _, rfl, rfl, by rw [List.take_zero, List.flatMap_nil, List.append_nil]; exact S21.out, Q21.out⟩
      case round =>
        obtain ⟨k, yx, yn, yc, hk, rfl, rfl, hw, hb⟩ := hrel
        obtain ⟨bz40, e40⟩ : ∃ z, z = bz21 ++ (f.ls.take k).flatMap lbN := ⟨_, rfl⟩
        rw [← e40] at hw
        have PK := PU.out k
        rw [← e40] at PK
        have S40 : Hid (Sb B bz40 (.slice yx yn yc) wr) := hw
        have E40 : Hid (bz40 = bz21 ++ (f.ls.take k).flatMap lbN) := e40
        have L40 : Hid (bz40.length ≤ 6017182507072) := PK
        obtain ⟨w40, f40⟩ : ∃ z, z = wr := ⟨_, rfl⟩
        rw [← f40] at hb S40 ⊢
        have Q40 : Hid (Bq B AW w40) := hb
        clear hw hb e40 PK f40
        have X := Q40.out.k _ _ _ _ AX.out (by decide) (by decide)
        have i7 : w40.cell? ⟨w.heap.size, 7, none⟩ = some (.slice x2 f.ls.length p2) := by simp [World.cell?, X]
        clear X
        by_cases hlt : k < f.ls.length
        · obtain ⟨a, rfl⟩ := (RL.out w40 Q40.out).some (by omega)
          obtain ⟨t, tv, te, tb, rfl, tk⟩ := (RL.out w40 Q40.out).el k hlt
          have TC : Hid (∀ V, Bq B AW V → V.cell? (a.add (k * 3)) = some (.int .i64 t.hd) ∧ V.cell? ⟨(a.add (k * 3)).block, (a.add (k * 3)).off + (0 + 1), none⟩ = some (.int .i64 t.en) ∧ V.cell? ⟨(a.add (k * 3)).block, (a.add (k * 3)).off + (1 + 1), none⟩ = some (.int .i64 t.tm)) := fun V hV => by
            obtain ⟨t', tv', te', tb', rfl, tk'⟩ := (RL.out V hV).el k hlt
            obtain rfl : t = t' := by rw [te] at te'; cases te'; rfl
            exact ⟨tk'.c0, tk'.cp 0 _ rfl, tk'.cp 1 _ rfl⟩
          have TK : Hid (bz21 ++ (f.ls.take (k + 1)).flatMap lbN = bz40 ++ nbN t.hd ++ nbN t.en ++ nbN t.tm) := by show _ = _; rw [E40.out, List.take_add_one, te, List.flatMap_append]; simp [lbN, nsN_cons, nsN_nil, List.append_assoc]
          have LT : Hid (k < f.ls.length) := hlt
          have kl : (k : Int) < f.ls.length := by omega
          have ek : wrap64 ((k : Int) + 1) = (k : Int) + 1 := by have := N2.out; unfold wrap64; omega
          clear hlt te tb tk hk
          have c0 := (TC.out w40 Q40.out).1
          go_wp2_with (go_at_call 42; refine (numR B _ _ _ _ S40.out (BQ.out _ Q40.out) (by have := L40.out; omega)).mono ?_)
          first | (rintro e w41 ⟨v41, he, h1, hb1⟩; have he' := he) | (rintro e w41 v41 he h1 hb1)
          subst he
          have Q41 : Hid (Bq B AW w41) := Q40.out.trans hb1
          obtain ⟨bz41, ez⟩ : ∃ z, z = bz40 ++ nbN t.hd := ⟨_, rfl⟩
          rw [← ez] at h1
          have S41 : Hid (Sb B bz41 v41 w41) := h1
          have E41 : Hid (bz41 = bz40 ++ nbN t.hd) := ez
          have L41 : Hid (bz41.length ≤ 6017182507080) := by show _ ≤ _; rw [ez, List.length_append, nbN_len]; have := L40.out; omega
          obtain ⟨tx41, tn41, tc41, rfl⟩ := h1.form
          clear h1 hb1 ez i7 c0
          have X := Q41.out.k _ _ _ _ AX.out (by decide) (by decide)
          have i7 : w41.cell? ⟨w.heap.size, 7, none⟩ = some (.slice (some a) f.ls.length p2) := by simp [World.cell?, X]
          clear X
          have c0 := (TC.out w41 Q41.out).2.1
          go_wp2_with (go_at_call 42; refine (numR B _ _ _ _ S41.out (BQ.out _ Q41.out) (by have := L41.out; omega)).mono ?_)
          first | (rintro e w42 ⟨v42, he, h1, hb1⟩; have he' := he) | (rintro e w42 v42 he h1 hb1)
          subst he
          have Q42 : Hid (Bq B AW w42) := Q41.out.trans hb1
          obtain ⟨bz42, ez⟩ : ∃ z, z = bz41 ++ nbN t.en := ⟨_, rfl⟩
          rw [← ez] at h1
          have S42 : Hid (Sb B bz42 v42 w42) := h1
          have E42 : Hid (bz42 = bz41 ++ nbN t.en) := ez
          have L42 : Hid (bz42.length ≤ 6017182507088) := by show _ ≤ _; rw [ez, List.length_append, nbN_len]; have := L41.out; omega
          obtain ⟨tx42, tn42, tc42, rfl⟩ := h1.form
          clear h1 hb1 ez i7 c0
          have X := Q42.out.k _ _ _ _ AX.out (by decide) (by decide)
          have i7 : w42.cell? ⟨w.heap.size, 7, none⟩ = some (.slice (some a) f.ls.length p2) := by simp [World.cell?, X]
          clear X
          have c0 := (TC.out w42 Q42.out).2.2
          go_wp2_with (go_at_call 42; refine (numR B _ _ _ _ S42.out (BQ.out _ Q42.out) (by have := L42.out; omega)).mono ?_)
          first | (rintro e w43 ⟨v43, he, h1, hb1⟩; have he' := he) | (rintro e w43 v43 he h1 hb1)
          subst he
          have Q43 : Hid (Bq B AW w43) := Q42.out.trans hb1
          obtain ⟨bz43, ez⟩ : ∃ z, z = bz42 ++ nbN t.tm := ⟨_, rfl⟩
          rw [← ez] at h1
          have S43 : Hid (Sb B bz43 v43 w43) := h1
          have E43 : Hid (bz43 = bz42 ++ nbN t.tm) := ez
          have L43 : Hid (bz43.length ≤ 6017182507096) := by show _ ≤ _; rw [ez, List.length_append, nbN_len]; have := L42.out; omega
          obtain ⟨tx43, tn43, tc43, rfl⟩ := h1.form
          clear h1 hb1 ez i7 c0
          have HF : Hid (Sb B (bz21 ++ (f.ls.take (k + 1)).flatMap lbN) (.slice tx43 tn43 tc43) w43) := by have q := S43.out; rw [E43.out, E42.out, E41.out, ← TK.out] at q; exact q
          go_wp2
          try rw [ek]
          exact ⟨⟨k + 1, tx43, tn43, tc43, Nat.succ_le_of_lt LT.out, rfl, rfl, HF.out, Q43.out⟩, msrE LT.out⟩
        · have kl : ¬ (k : Int) < f.ls.length := by omega
          have ek : k = f.ls.length := by omega
          subst ek
          have HF : Hid (Sb B (bs ++ flbN f) (.slice yx yn yc) w40) := by
            have q := S40.out
            rw [E40.out, List.take_length, E21.out, E20.out, PF.out] at q
            show Sb _ _ _ _
            unfold flbN lsN
            simpa only [List.append_assoc] using q
          clear hlt hk
          go_wp2
          go_ret
          exact ⟨_, rfl, HF.out, QA.out.trans Q40.out⟩
end Go.Proofs.YtpcjnhffpkpchaaGreat
