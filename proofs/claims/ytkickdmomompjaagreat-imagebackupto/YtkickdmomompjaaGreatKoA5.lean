/- image: what a reader reads, as functions of the bytes and of where it stands; no statement of the seat is proved here. -/
import Derived.Test.YtkickdmomompjaaGreatKoA1
import Derived.Laws.BytesArg
namespace Go.Proofs.YtkickdmomompjaaGreat
set_option linter.unusedVariables false
open Go.RowKit
set_option maxRecDepth 20000 in
set_option maxHeartbeats 4000000 in
theorem takeX_ok (g : Nat) (b : Addr) (n c p k : Nat) (a : Int) (w : World) (h : RdAt g (some b) n c p a 0 w) (hk : p + k ≤ n) (hn : n ≤ 4194304) (hc : n < c) :
    Calls Tryz.prog 85 #[.pointer (some ⟨g, 0, none⟩), .int .i64 k] w fun e w' => e = .returned (.slice (some (b.add p)) k (c - p)) ∧ RdAt g (some b) n c (p + k) a 0 w' ∧ w.grownBy w' (some g) := by
  have H : Hid (RdAt g (some b) n c p a 0 w) := h
  clear h
  obtain ⟨c0, c1, c2, c3⟩ := H.out.cs
  obtain ⟨N1, e1, l1⟩ : ∃ N1 : Int, wrap64 ((n : Int) - p) = N1 ∧ ¬ N1 < (k : Int) := ⟨_, rfl, by unfold wrap64; omega⟩
  obtain ⟨q, hq⟩ : ∃ q, q = p + k := ⟨_, rfl⟩
  have e2 : wrap64 ((p : Int) + k) = (q : Int) := by unfold wrap64; omega
  have e3 : wrap64 ((q : Int) - k) = (p : Int) := by unfold wrap64; omega
  have HQ : Hid (q = p + k ∧ q ≤ n ∧ n < c) := ⟨hq, by omega, hc⟩
  have t1 : ((p : Nat) : Int).toNat = p := by omega
  have t2 : ((q : Nat) : Int).toNat = q := by omega
  have q1 : p ≤ q := by omega
  have q2 : q ≤ c := by omega
  have q3 : (p : Int) ≤ q := by omega
  have q4 : (q : Int) ≤ c := by omega
  have q5 : q - p = k := by omega
  have q6 : ¬ c = p := by omega
  have q7 : ¬ c - p = 0 := by omega
  rw [← hq]
  clear hq hk hn hc
  go_enter Tryz.func85, Tryz.ntmps85
  go_upto_region 1 with fail
  go_quiet (fail)
  obtain ⟨W, eW⟩ : ∃ W, W = w.drewN nq := ⟨_, rfl⟩
  rw [← eW]
  have HW : Hid (RdAt g (some b) n c p a 0 W) := by rw [eW]; exact H.out.drewN _
  have GW : Hid (w.grownBy W (some g)) := by rw [eW]; exact gb_drewN (gb_refl _ _) _
  clear eW c0 c1 c2 c3
  obtain ⟨c0, c1, c2, c3⟩ := HW.out.cs
  have z1 := HW.out.froz 1
  have H1 : Hid (RdAt g (some b) n c q a 0 (W.setCell ⟨g, 1, none⟩ (.int .i64 (q : Int)))) := HW.out.set1 q
  have G1 : Hid (w.grownBy (W.setCell ⟨g, 1, none⟩ (.int .i64 (q : Int))) (some g)) := gb_trans GW.out (gb_set _ _ _ _)
  obtain ⟨d0, d1, d2, d3⟩ := H1.out.cs
  go_upto_region 3 with fail
  go_wp2_with (go_at_call 76; refine (failedX g _ n c p a 0 _ HW.out).mono ?_)
  try (first | (rintro e w1 ⟨he, hw⟩; have he' := he; subst he; rw [hw]; clear hw w1) | (rintro e w1 he hw; subst he; rw [hw]; clear hw w1))
  go_upto_region 6 with fail
  go_quiet (fail)
  go_wp2
  go_ret
  exact ⟨rfl, H1.out, gb_drewN G1.out _⟩
set_option maxRecDepth 20000 in
set_option maxHeartbeats 4000000 in
theorem takeX_no (g : Nat) (x : Option Addr) (n c p : Nat) (k a y : Int) (w : World) (h : RdAt g x n c p a y w) (hp : p ≤ n) (hn : n ≤ 4194304) (hk : y ≠ 0 ∨ (n : Int) < p + k) :
    Calls Tryz.prog 85 #[.pointer (some ⟨g, 0, none⟩), .int .i64 k] w fun e w' => e = .returned (.slice none 0 0) ∧ RdAt g x n c p (if y = 0 then (n : Int) else a) (if y = 0 then 2 else y) w' ∧ w.grownBy w' (some g) := by
  have H : Hid (RdAt g x n c p a y w) := h
  clear h
  obtain ⟨c0, c1, c2, c3⟩ := H.out.cs
  obtain ⟨N1, e1, hN⟩ : ∃ N1 : Int, wrap64 ((n : Int) - p) = N1 ∧ N1 = n - p := ⟨_, rfl, by unfold wrap64; omega⟩
  have F1 : Hid (∀ V, RdAt g x n c p a y V → Calls Tryz.prog 42 #[.pointer (some ⟨g, 0, none⟩), .int .i64 n, .int .i64 2] V fun e w' => e = .returned (.tuple #[]) ∧ RdAt g x n c p (if y = 0 then (n : Int) else a) (if y = 0 then 2 else y) w' ∧ V.grownBy w' (some g)) := fun V hV => failX g x n c p a y n 2 V hV
  have NY : Hid ((if y = 0 then (2 : Int) else y) ≠ 0) := by show _ ≠ _; by_cases q : y = 0 <;> simp [q]
  by_cases hl : N1 < k
  · generalize (if y = 0 then (n : Int) else a) = A at *
    generalize (if y = 0 then (2 : Int) else y) = Y at *
    have ny : (Y != 0) = true := by simp [NY.out]
    clear hk hN hp hn
    go_enter Tryz.func85, Tryz.ntmps85
    go_upto_region 1 with fail
    go_quiet (fail)
    obtain ⟨W, eW⟩ : ∃ W, W = w.drewN nq := ⟨_, rfl⟩
    rw [← eW]
    have HW : Hid (RdAt g x n c p a y W) := by rw [eW]; exact H.out.drewN _
    have GW : Hid (w.grownBy W (some g)) := by rw [eW]; exact gb_drewN (gb_refl _ _) _
    clear eW c0 c1 c2 c3
    obtain ⟨c0, c1, c2, c3⟩ := HW.out.cs
    go_upto_region 2 with fail
    go_wp2_with (go_at_call 42; refine (F1.out _ HW.out).mono ?_)
    first | (rintro e w1 ⟨he, h1, g1⟩; have he' := he) | (rintro e w1 he h1 g1)
    subst he
    have H1 : Hid (RdAt g x n c p A Y w1) := h1
    have G1 : Hid (w.grownBy w1 (some g)) := gb_trans GW.out g1
    clear h1 g1 c0 c1 c2 c3
    go_upto_region 3 with fail
    go_wp2_with (go_at_call 76; refine (failedX g _ n c p A Y _ H1.out).mono ?_)
    try (first | (rintro e w2 ⟨he, hw⟩; have he' := he; subst he; rw [hw]; clear hw w2) | (rintro e w2 he hw; subst he; rw [hw]; clear hw w2))
    go_wp2
    go_ret
    exact ⟨rfl, H1.out, G1.out⟩
  · have hy : y ≠ 0 := by rcases hk with q | q; exact q; omega
    rw [if_neg hy, if_neg hy]
    have ny : (y != 0) = true := by simp [hy]
    clear hk hN hp hn F1 NY hy
    go_enter Tryz.func85, Tryz.ntmps85
    go_upto_region 1 with fail
    go_quiet (fail)
    obtain ⟨W, eW⟩ : ∃ W, W = w.drewN nq := ⟨_, rfl⟩
    rw [← eW]
    have HW : Hid (RdAt g x n c p a y W) := by rw [eW]; exact H.out.drewN _
    have GW : Hid (w.grownBy W (some g)) := by rw [eW]; exact gb_drewN (gb_refl _ _) _
    clear eW c0 c1 c2 c3
    obtain ⟨c0, c1, c2, c3⟩ := HW.out.cs
    go_upto_region 3 with fail
    go_wp2_with (go_at_call 76; refine (failedX g _ n c p a y _ HW.out).mono ?_)
    try (first | (rintro e w1 ⟨he, hw⟩; have he' := he; subst he; rw [hw]; clear hw w1) | (rintro e w1 he hw; subst he; rw [hw]; clear hw w1))
    go_wp2
    go_ret
    exact ⟨rfl, HW.out, GW.out⟩
theorem add_block' (a : Addr) (n : Nat) : (a.add n).block = a.block := by unfold Addr.add; split <;> rfl
theorem add_zero' (a : Addr) : a.add 0 = a := by cases a; unfold Addr.add; split <;> simp_all
set_option maxRecDepth 20000 in
set_option maxHeartbeats 4000000 in
theorem rawX_ok (g : Nat) (b : Addr) (n c p v : Nat) (a : Int) (w : World) (h : RdAt g (some b) n c p a 0 w) (hk : p < n) (hn : n ≤ 4194304) (hc : n < c) (hb : b.block ≠ g) (hv : w.cell? (b.add p) = some (.int .u8 v)) :
    Calls Tryz.prog 86 #[.pointer (some ⟨g, 0, none⟩)] w fun e w' => e = .returned (.int .u8 v) ∧ RdAt g (some b) n c (p + 1) a 0 w' ∧ w.grownBy w' (some g) := by
  have TK : Hid (Calls Tryz.prog 85 #[.pointer (some ⟨g, 0, none⟩), .int .i64 1] w fun e w' => e = .returned (.slice (some (b.add p)) 1 (c - p)) ∧ RdAt g (some b) n c (p + 1) a 0 w' ∧ w.grownBy w' (some g)) := takeX_ok g b n c p 1 a w h (by omega) hn hc
  have HV : Hid (∀ V, w.grownBy V (some g) → V.cell? (b.add p) = some (.int .u8 v)) := fun V hV => hV.cell hv (by rw [add_block']; intro q; cases q; exact hb rfl)
  obtain ⟨b2, eb⟩ : ∃ b2, b2 = b.add p := ⟨_, rfl⟩
  rw [← eb] at TK HV
  clear eb h hk hn hc hb hv
  go_enter Tryz.func86, Tryz.ntmps86
  go_wp2_with (go_at_call 85; refine (TK.out).mono ?_)
  first | (rintro e w1 ⟨he, h1, g1⟩; have he' := he) | (rintro e w1 he h1 g1)
  subst he
  have H1 : Hid (RdAt g (some b) n c (p + 1) a 0 w1) := h1
  have v0 := HV.out w1 g1
  have v1 : w1.cell? (b2.add 0) = some (.int .u8 v) := by rw [add_zero']; exact v0
  have G1 : Hid (w.grownBy w1 (some g)) := g1
  clear h1 g1
  go_wp2
  go_ret
  exact ⟨rfl, H1.out, G1.out⟩
set_option maxRecDepth 20000 in
set_option maxHeartbeats 4000000 in
theorem rawX_no (g : Nat) (x : Option Addr) (n c p : Nat) (a y : Int) (w : World) (h : RdAt g x n c p a y w) (hp : p ≤ n) (hn : n ≤ 4194304) (hk : y ≠ 0 ∨ n = p) :
    Calls Tryz.prog 86 #[.pointer (some ⟨g, 0, none⟩)] w fun e w' => e = .returned (.int .u8 0) ∧ RdAt g x n c p (if y = 0 then (n : Int) else a) (if y = 0 then 2 else y) w' ∧ w.grownBy w' (some g) := by
  have TK : Hid (Calls Tryz.prog 85 #[.pointer (some ⟨g, 0, none⟩), .int .i64 1] w fun e w' => e = .returned (.slice none 0 0) ∧ RdAt g x n c p (if y = 0 then (n : Int) else a) (if y = 0 then 2 else y) w' ∧ w.grownBy w' (some g)) := takeX_no g x n c p 1 a y w h hp hn (by omega)
  generalize (if y = 0 then (n : Int) else a) = A at *
  generalize (if y = 0 then (2 : Int) else y) = Y at *
  clear h hk hn hp
  go_enter Tryz.func86, Tryz.ntmps86
  go_wp2_with (go_at_call 85; refine (TK.out).mono ?_)
  first | (rintro e w1 ⟨he, h1, g1⟩; have he' := he) | (rintro e w1 he h1 g1)
  subst he
  have H1 : Hid (RdAt g x n c p A Y w1) := h1
  have G1 : Hid (w.grownBy w1 (some g)) := g1
  clear h1 g1
  go_wp2
  go_ret
  exact ⟨rfl, H1.out, G1.out⟩
end Go.Proofs.YtkickdmomompjaaGreat
namespace Go.Proofs.YtkickdmomompjaaGreat
set_option linter.unusedVariables false
open Go.RowKit
/-- The number of bytes, the lowest first. -/
def leN : List Nat → Nat
  | [] => 0
  | b :: t => b + 256 * leN t
theorem leN_app (a b : List Nat) : leN (a ++ b) = leN a + 256 ^ a.length * leN b := by
  induction a with
  | nil => simp [leN]
  | cons x t ih =>
    show x + 256 * leN (t ++ b) = x + 256 * leN t + 256 ^ (t.length + 1) * leN b
    rw [ih, Nat.pow_succ, Nat.mul_add, Nat.mul_comm (256 ^ t.length) 256, Nat.mul_assoc]
    omega
theorem leN_lt {a : List Nat} (h : ∀ b ∈ a, b < 256) : leN a < 256 ^ a.length := by
  induction a with
  | nil => simp [leN]
  | cons x t ih =>
    have h1 := h x (by simp)
    have h2 := ih (fun b hb => h b (by simp [hb]))
    show x + 256 * leN t < 256 ^ (t.length + 1)
    rw [Nat.pow_succ]
    omega
theorem leN_take {l : List Nat} {k b : Nat} (h : l[k]? = some b) : leN (l.take (k + 1)) = leN (l.take k) + 256 ^ k * b := by
  have hk := (List.getElem?_eq_some_iff.1 h).1
  rw [List.take_add_one, h, leN_app, List.length_take, Nat.min_eq_left (by omega)]
  simp [leN]
theorem ofInt_wrap (z : Int) : BitVec.ofInt 64 (wrap64 z) = BitVec.ofInt 64 z := by
  apply BitVec.eq_of_toInt_eq
  rw [BitVec.toInt_ofInt, BitVec.toInt_ofInt]
  unfold wrap64
  rw [Int.bmod_def, Int.bmod_def]
  omega
theorem or_i64 {m b i : Nat} (hm : m < 256 ^ i) : bits .or .i64 (wrap64 (m : Int)) (wrap64 ((256 ^ i * b : Nat) : Int)) = wrap64 ((m + 256 ^ i * b : Nat) : Int) := by
  show IntKind.i64.wrap ((BitVec.ofInt 64 (wrap64 (m : Int)) ||| BitVec.ofInt 64 (wrap64 ((256 ^ i * b : Nat) : Int))).toNat : Int) = _
  rw [ofInt_wrap, ofInt_wrap]
  have e1 : BitVec.ofInt 64 (m : Int) = BitVec.ofNat 64 m := BitVec.ofInt_natCast 64 m
  have e2 : BitVec.ofInt 64 ((256 ^ i * b : Nat) : Int) = BitVec.ofNat 64 (256 ^ i * b) := BitVec.ofInt_natCast 64 (256 ^ i * b)
  rw [e1, e2]
  have e3 : BitVec.ofNat 64 m ||| BitVec.ofNat 64 (256 ^ i * b) = BitVec.ofNat 64 (m + 256 ^ i * b) := by
    apply BitVec.eq_of_toNat_eq
    rw [BitVec.toNat_or, BitVec.toNat_ofNat, BitVec.toNat_ofNat, BitVec.toNat_ofNat, ← Nat.or_mod_two_pow]
    congr 1
    have e4 : (256 : Nat) ^ i = 2 ^ (8 * i) := by rw [Nat.pow_mul]
    rw [e4] at hm ⊢
    rw [Nat.or_comm, ← Nat.two_pow_add_eq_or_of_lt hm, Nat.add_comm]
  rw [e3, BitVec.toNat_ofNat]
  have e5 : ∀ z : Int, IntKind.i64.wrap z = wrap64 z := fun z => by
    show (if (true && decide (z % 18446744073709551616 ≥ 9223372036854775808)) = true then z % 18446744073709551616 - 18446744073709551616 else z % 18446744073709551616) = wrap64 z
    unfold wrap64
    by_cases q : z % 18446744073709551616 ≥ 9223372036854775808
    · rw [if_pos (by simpa using q)]; omega
    · rw [if_neg (by simpa using q)]; omega
  rw [e5]
  generalize m + 256 ^ i * b = z
  have e6 : ((z % 2 ^ 64 : Nat) : Int) = (z : Int) % 18446744073709551616 := by omega
  rw [e6]
  unfold wrap64
  omega
set_option maxRecDepth 20000 in
set_option maxHeartbeats 4000000 in
theorem numberX_no (g : Nat) (x : Option Addr) (n c p : Nat) (a y : Int) (w : World) (h : RdAt g x n c p a y w) (hp : p ≤ n) (hn : n ≤ 4194304) (hk : y ≠ 0 ∨ n < p + 8) :
    Calls Tryz.prog 88 #[.pointer (some ⟨g, 0, none⟩)] w fun e w' => e = .returned (.int .i64 0) ∧ RdAt g x n c p (if y = 0 then (n : Int) else a) (if y = 0 then 2 else y) w' ∧ w.grownBy w' (some g) := by
  have TK : Hid (Calls Tryz.prog 85 #[.pointer (some ⟨g, 0, none⟩), .int .i64 8] w fun e w' => e = .returned (.slice none 0 0) ∧ RdAt g x n c p (if y = 0 then (n : Int) else a) (if y = 0 then 2 else y) w' ∧ w.grownBy w' (some g)) := takeX_no g x n c p 8 a y w h hp hn (by omega)
  generalize (if y = 0 then (n : Int) else a) = A at *
  generalize (if y = 0 then (2 : Int) else y) = Y at *
  clear h hk hn hp
  go_enter Tryz.func88, Tryz.ntmps88
  go_upto_region 2 with fail
  go_wp2_with (go_at_call 85; refine (TK.out).mono ?_)
  first | (rintro e w1 ⟨he, h1, g1⟩; have he' := he) | (rintro e w1 he h1 g1)
  subst he
  have H1 : Hid (RdAt g x n c p A Y w1) := h1
  have G1 : Hid (w.grownBy w1 (some g)) := g1
  clear h1 g1
  go_wp2
  go_loopw [3, 9] (fun s i wr => s = .int .i64 0 ∧ i = .int .i64 0 ∧ wr = w1) (fun _ i _ => 0)
  case atStart => exact ⟨rfl, rfl, rfl⟩
  case round =>
    obtain ⟨rfl, rfl, hw⟩ := hrel
    rw [hw]
    clear hw wr
    go_wp2
    go_ret
    exact ⟨rfl, H1.out, G1.out⟩
set_option maxRecDepth 20000 in
set_option maxHeartbeats 4000000 in
theorem numberX_ok (g : Nat) (b : Addr) (n c p : Nat) (a : Int) (bs : List Nat) (w : World) (h : RdAt g (some b) n c p a 0 w) (hk : p + 8 ≤ n) (hn : n ≤ 4194304) (hc : n < c) (hb : b.block ≠ g) (hl : bs.length = 8) (h8 : ∀ v ∈ bs, v < 256) (hv : ∀ (j : Nat) v, bs[j]? = some v → w.cell? ((b.add p).add j) = some (.int .u8 v)) :
    Calls Tryz.prog 88 #[.pointer (some ⟨g, 0, none⟩)] w fun e w' => e = .returned (.int .i64 (wrap64 (leN bs : Int))) ∧ RdAt g (some b) n c (p + 8) a 0 w' ∧ w.grownBy w' (some g) := by
  have TK : Hid (Calls Tryz.prog 85 #[.pointer (some ⟨g, 0, none⟩), .int .i64 8] w fun e w' => e = .returned (.slice (some (b.add p)) 8 (c - p)) ∧ RdAt g (some b) n c (p + 8) a 0 w' ∧ w.grownBy w' (some g)) := takeX_ok g b n c p 8 a w h hk hn hc
  have HV : Hid (∀ V, w.grownBy V (some g) → ∀ (j : Nat) v, bs[j]? = some v → V.cell? ((b.add p).add j) = some (.int .u8 v)) := fun V hV j v hj => hV.cell (hv j v hj) (by rw [add_block', add_block']; intro q; cases q; exact hb rfl)
  have HL : Hid (bs.length = 8) := hl
  have H8 : Hid (∀ v ∈ bs, v < 256) := h8
  obtain ⟨b2, eb⟩ : ∃ b2, b2 = b.add p := ⟨_, rfl⟩
  rw [← eb] at TK HV
  clear eb h hk hn hc hb hv hl h8
  go_enter Tryz.func88, Tryz.ntmps88
  go_upto_region 2 with fail
  go_wp2_with (go_at_call 85; refine (TK.out).mono ?_)
  first | (rintro e w1 ⟨he, h1, g1⟩; have he' := he) | (rintro e w1 he h1 g1)
  subst he
  have H1 : Hid (RdAt g (some b) n c (p + 8) a 0 w1) := h1
  have G1 : Hid (w.grownBy w1 (some g)) := g1
  have V1 : Hid (∀ (j : Nat) v, bs[j]? = some v → w1.cell? (b2.add j) = some (.int .u8 v)) := HV.out w1 g1
  clear h1 g1 HV TK
  go_wp2
  go_loopw [3, 9] (fun s i wr => ∃ k : Nat, k ≤ 8 ∧ s = .int .i64 (wrap64 (leN (bs.take k) : Int)) ∧ i = .int .i64 k ∧ wr = w1) (fun _ i _ => 8 - (intOf i).toNat)
  case atStart => exact ⟨0, Nat.zero_le _, by rw [List.take_zero]; show Value.int .i64 0 = Value.int .i64 (wrap64 ((0 : Nat) : Int)); rw [show wrap64 ((0 : Nat) : Int) = 0 by unfold wrap64; omega], rfl, rfl⟩
  case round =>
    obtain ⟨k, hk, rfl, rfl, hw⟩ := hrel
    rw [hw]
    clear hw wr
    by_cases hlt : k < 8
    · obtain ⟨v, hvk⟩ : ∃ v, bs[k]? = some v := ⟨_, List.getElem?_eq_getElem (by have := HL.out; omega)⟩
      have f0 := V1.out k v hvk
      have hv8 := H8.out v (List.mem_of_getElem? hvk)
      have TE : Hid (leN (bs.take (k + 1)) = leN (bs.take k) + 256 ^ k * v) := leN_take hvk
      have TL : Hid (leN (bs.take k) < 256 ^ k) := by
        have q := leN_lt (a := bs.take k) (fun b hb => H8.out b (List.mem_of_mem_take hb))
        rw [List.length_take, Nat.min_eq_left (by have := HL.out; omega)] at q
        exact q
      generalize leN (bs.take k) = m at *
      have kl : (k : Int) < 8 := by omega
      have LT : Hid (k < 8) := hlt
      have ek : wrap64 ((k : Int) + 1) = (k : Int) + 1 := by unfold wrap64; omega
      have ek8 : wrap64 (8 * (k : Int)) = 8 * (k : Int) := by unfold wrap64; omega
      have ev : wrap64 (v : Int) = (v : Int) := by unfold wrap64; omega
      clear hk hlt hvk
      have e7 : ((v : Int) * 2 ^ (8 * k)) = ((256 ^ k * v : Nat) : Int) := by
        have e4 : (256 : Nat) ^ k = 2 ^ (8 * k) := by rw [Nat.pow_mul]
        rw [e4, Int.natCast_mul, Int.natCast_pow, Int.mul_comm]
        rfl
      have e8 : Hid (bits .or .i64 (wrap64 (m : Int)) (wrap64 ((v : Int) * 2 ^ (8 * k))) = wrap64 (leN (bs.take (k + 1)) : Int)) := by
        show _ = _
        rw [e7, or_i64 TL.out, TE.out]
      clear e7
      go_wp2
      refine ⟨⟨k + 1, by have := LT.out; omega, by rw [e8.out], by simp, trivial⟩, ?_⟩
      show 8 - ((k : Int) + 1).toNat < 8 - ((k : Int)).toNat
      have := LT.out
      omega
    · have kl : ¬ (k : Int) < 8 := by omega
      have ek : k = 8 := by omega
      subst ek
      rw [List.take_of_length_le (by rw [HL.out]; exact Nat.le_refl _)]
      clear hlt hk
      go_wp2
      go_ret
      exact ⟨rfl, H1.out, G1.out⟩
end Go.Proofs.YtkickdmomompjaaGreat
namespace Go.Proofs.YtkickdmomompjaaGreat
set_option linter.unusedVariables false
open Go.RowKit
set_option maxRecDepth 20000 in
set_option maxHeartbeats 4000000 in
theorem flagX_no (g : Nat) (x : Option Addr) (n c p : Nat) (a y : Int) (w : World) (h : RdAt g x n c p a y w) (hp : p ≤ n) (hn : n ≤ 4194304) (hk : y ≠ 0 ∨ n = p) :
    Calls Tryz.prog 87 #[.pointer (some ⟨g, 0, none⟩)] w fun e w' => e = .returned (.bool false) ∧ RdAt g x n c p (if y = 0 then (n : Int) else a) (if y = 0 then 2 else y) w' ∧ w.grownBy w' (some g) := by
  have TK : Hid (Calls Tryz.prog 86 #[.pointer (some ⟨g, 0, none⟩)] w fun e w' => e = .returned (.int .u8 0) ∧ RdAt g x n c p (if y = 0 then (n : Int) else a) (if y = 0 then 2 else y) w' ∧ w.grownBy w' (some g)) := rawX_no g x n c p a y w h hp hn hk
  obtain ⟨c0, c1, c2, c3⟩ := h.cs
  generalize (if y = 0 then (n : Int) else a) = A at *
  generalize (if y = 0 then (2 : Int) else y) = Y at *
  clear h hk hn hp
  go_enter Tryz.func87, Tryz.ntmps87
  go_upto_region 2 with fail
  go_wp2_with (go_at_call 86; refine (TK.out).mono ?_)
  first | (rintro e w1 ⟨he, h1, g1⟩; have he' := he) | (rintro e w1 he h1 g1)
  subst he
  have H1 : Hid (RdAt g x n c p A Y w1) := h1
  have G1 : Hid (w.grownBy w1 (some g)) := g1
  clear h1 g1
  go_wp2
  go_ret
  exact ⟨rfl, H1.out, G1.out⟩
set_option maxRecDepth 20000 in
set_option maxHeartbeats 4000000 in
theorem flagX_ok (g : Nat) (b : Addr) (n c p v : Nat) (a : Int) (w : World) (h : RdAt g (some b) n c p a 0 w) (hk : p < n) (hn : n ≤ 4194304) (hc : n < c) (hb : b.block ≠ g) (hv : w.cell? (b.add p) = some (.int .u8 v)) :
    Calls Tryz.prog 87 #[.pointer (some ⟨g, 0, none⟩)] w fun e w' => e = .returned (.bool (v == 1)) ∧ RdAt g (some b) n c (p + 1) (if 1 < v then (p : Int) else a) (if 1 < v then 203 else 0) w' ∧ w.grownBy w' (some g) := by
  have TK : Hid (Calls Tryz.prog 86 #[.pointer (some ⟨g, 0, none⟩)] w fun e w' => e = .returned (.int .u8 v) ∧ RdAt g (some b) n c (p + 1) a 0 w' ∧ w.grownBy w' (some g)) := rawX_ok g b n c p v a w h hk hn hc hb hv
  obtain ⟨c0, c1, c2, c3⟩ := h.cs
  have F1 : Hid (∀ V, RdAt g (some b) n c (p + 1) a 0 V → Calls Tryz.prog 42 #[.pointer (some ⟨g, 0, none⟩), .int .i64 p, .int .i64 203] V fun e w' => e = .returned (.tuple #[]) ∧ RdAt g (some b) n c (p + 1) p 203 w' ∧ V.grownBy w' (some g)) := fun V hV => by
    have q := failX g (some b) n c (p + 1) a 0 p 203 V hV
    rw [if_pos rfl, if_pos rfl] at q
    exact q
  clear h hk hn hc hb hv
  by_cases v1 : 1 < v
  · rw [if_pos v1, if_pos v1]
    have i1 : (1 : Int) < (v : Int) := by omega
    have i2 : ((v : Int) == 1) = false := by rw [beq_eq_false_iff_ne]; omega
    have i3 : (v == 1) = false := by rw [beq_eq_false_iff_ne]; omega
    rw [i3]
    have i4 : ¬ (v : Int) = 1 := by omega
    have i5 : ¬ v = 1 := by omega
    clear v1
    go_enter Tryz.func87, Tryz.ntmps87
    go_upto_region 2 with fail
    go_wp2_with (go_at_call 86; refine (TK.out).mono ?_)
    first | (rintro e w1 ⟨he, h1, g1⟩; have he' := he) | (rintro e w1 he h1 g1)
    subst he
    have H1 : Hid (RdAt g (some b) n c (p + 1) a 0 w1) := h1
    have G1 : Hid (w.grownBy w1 (some g)) := g1
    clear h1 g1 c0 c1 c2 c3
    go_upto_region 4 with fail
    go_wp2_with (go_at_call 42; refine (F1.out _ H1.out).mono ?_)
    first | (rintro e w2 ⟨he, h2, g2⟩; have he' := he) | (rintro e w2 he h2 g2)
    subst he
    have H2 : Hid (RdAt g (some b) n c (p + 1) p 203 w2) := h2
    have G2 : Hid (w.grownBy w2 (some g)) := gb_trans G1.out g2
    clear h2 g2
    go_wp2
    go_ret
    exact ⟨rfl, H2.out, G2.out⟩
  · rw [if_neg v1, if_neg v1]
    have i1 : ¬ (1 : Int) < (v : Int) := by omega
    have i3 : (v == 1) = ((v : Int) == 1) := by
      by_cases q : v = 1
      · subst q; rfl
      · rw [beq_eq_false_iff_ne.2 q, beq_eq_false_iff_ne.2 (by omega)]
    rw [i3]
    clear v1 i3 F1
    go_enter Tryz.func87, Tryz.ntmps87
    go_upto_region 2 with fail
    go_wp2_with (go_at_call 86; refine (TK.out).mono ?_)
    first | (rintro e w1 ⟨he, h1, g1⟩; have he' := he) | (rintro e w1 he h1 g1)
    subst he
    have H1 : Hid (RdAt g (some b) n c (p + 1) a 0 w1) := h1
    have G1 : Hid (w.grownBy w1 (some g)) := g1
    clear h1 g1 c0 c1 c2 c3
    go_wp2
    go_ret
    exact ⟨rfl, H1.out, G1.out⟩
end Go.Proofs.YtkickdmomompjaaGreat
namespace Go.Proofs.YtkickdmomompjaaGreat
set_option linter.unusedVariables false
open Go.RowKit
set_option maxRecDepth 20000 in
set_option maxHeartbeats 4000000 in
theorem countX_no (g : Nat) (x : Option Addr) (n c p : Nat) (a y : Int) (w : World) (h : RdAt g x n c p a y w) (hp : p ≤ n) (hn : n ≤ 4194304) (hk : y ≠ 0 ∨ n < p + 8) :
    Calls Tryz.prog 84 #[.pointer (some ⟨g, 0, none⟩)] w fun e w' => e = .returned (.int .i64 0) ∧ RdAt g x n c p (if y = 0 then (n : Int) else a) (if y = 0 then 2 else y) w' ∧ w.grownBy w' (some g) := by
  have TK : Hid (Calls Tryz.prog 88 #[.pointer (some ⟨g, 0, none⟩)] w fun e w' => e = .returned (.int .i64 0) ∧ RdAt g x n c p (if y = 0 then (n : Int) else a) (if y = 0 then 2 else y) w' ∧ w.grownBy w' (some g)) := numberX_no g x n c p a y w h hp hn hk
  obtain ⟨c0, c1, c2, c3⟩ := h.cs
  obtain ⟨N1, e1, l1⟩ : ∃ N1 : Int, wrap64 ((n : Int) - p) = N1 ∧ ¬ N1 < (0 : Int) := ⟨_, rfl, by unfold wrap64; omega⟩
  generalize (if y = 0 then (n : Int) else a) = A at *
  generalize (if y = 0 then (2 : Int) else y) = Y at *
  clear h hk hn hp
  go_enter Tryz.func84, Tryz.ntmps84
  go_upto_region 2 with fail
  go_wp2_with (go_at_call 88; refine (TK.out).mono ?_)
  first | (rintro e w1 ⟨he, h1, g1⟩; have he' := he) | (rintro e w1 he h1 g1)
  subst he
  have H1 : Hid (RdAt g x n c p A Y w1) := h1
  have G1 : Hid (w.grownBy w1 (some g)) := g1
  clear h1 g1 c0 c1 c2 c3
  obtain ⟨c0, c1, c2, c3⟩ := H1.out.cs
  go_upto_region 5 with fail
  go_quiet (fail)
  go_wp2
  go_ret
  exact ⟨rfl, H1.out.drewN _, gb_drewN G1.out _⟩
set_option maxRecDepth 20000 in
set_option maxHeartbeats 4000000 in
theorem countX_ok (g : Nat) (b : Addr) (n c p : Nat) (a : Int) (bs : List Nat) (w : World) (h : RdAt g (some b) n c p a 0 w) (hk : p + 8 ≤ n) (hn : n ≤ 4194304) (hc : n < c) (hb : b.block ≠ g) (hl : bs.length = 8) (h8 : ∀ v ∈ bs, v < 256) (hv : ∀ (j : Nat) v, bs[j]? = some v → w.cell? ((b.add p).add j) = some (.int .u8 v)) :
    Calls Tryz.prog 84 #[.pointer (some ⟨g, 0, none⟩)] w fun e w' => e = .returned (.int .i64 (wrap64 (leN bs : Int))) ∧ RdAt g (some b) n c (p + 8) (if wrap64 (leN bs : Int) < 0 then (p : Int) else if (n : Int) - (p + 8) < wrap64 (leN bs : Int) then (n : Int) else a) (if wrap64 (leN bs : Int) < 0 then 4 else if (n : Int) - (p + 8) < wrap64 (leN bs : Int) then 2 else 0) w' ∧ w.grownBy w' (some g) := by
  have TK : Hid (Calls Tryz.prog 88 #[.pointer (some ⟨g, 0, none⟩)] w fun e w' => e = .returned (.int .i64 (wrap64 (leN bs : Int))) ∧ RdAt g (some b) n c (p + 8) a 0 w' ∧ w.grownBy w' (some g)) := numberX_ok g b n c p a bs w h hk hn hc hb hl h8 hv
  obtain ⟨c0, c1, c2, c3⟩ := h.cs
  have FX : Hid (∀ V (a' y' : Int), RdAt g (some b) n c (p + 8) a 0 V → Calls Tryz.prog 42 #[.pointer (some ⟨g, 0, none⟩), .int .i64 a', .int .i64 y'] V fun e w' => e = .returned (.tuple #[]) ∧ RdAt g (some b) n c (p + 8) a' y' w' ∧ V.grownBy w' (some g)) := fun V a' y' hV => by
    have q := failX g (some b) n c (p + 8) a 0 a' y' V hV
    rw [if_pos rfl, if_pos rfl] at q
    exact q
  generalize wrap64 (leN bs : Int) = N at *
  obtain ⟨p8, e8⟩ : ∃ p8, p8 = p + 8 := ⟨_, rfl⟩
  obtain ⟨N1, e1, l1⟩ : ∃ N1 : Int, wrap64 ((n : Int) - (p8 : Int)) = N1 ∧ N1 = (n : Int) - (p + 8) := ⟨_, rfl, by unfold wrap64; omega⟩
  rw [← e8, ← l1]
  rw [← e8] at TK FX
  clear h hk hn hc hb hv hl h8 l1 e8
  by_cases q1 : N < 0
  · rw [if_pos q1, if_pos q1]
    go_enter Tryz.func84, Tryz.ntmps84
    go_upto_region 2 with fail
    go_wp2_with (go_at_call 88; refine (TK.out).mono ?_)
    first | (rintro e w1 ⟨he, h1, g1⟩; have he' := he) | (rintro e w1 he h1 g1)
    subst he
    have H1 : Hid (RdAt g (some b) n c p8 a 0 w1) := h1
    have G1 : Hid (w.grownBy w1 (some g)) := g1
    clear h1 g1 c0 c1 c2 c3
    go_upto_region 4 with fail
    go_wp2_with (go_at_call 42; refine (FX.out _ p 4 H1.out).mono ?_)
    first | (rintro e w2 ⟨he, h2, g2⟩; have he' := he) | (rintro e w2 he h2 g2)
    subst he
    have H2 : Hid (RdAt g (some b) n c p8 p 4 w2) := h2
    have G2 : Hid (w.grownBy w2 (some g)) := gb_trans G1.out g2
    clear h2 g2
    go_wp2
    go_ret
    exact ⟨rfl, H2.out, G2.out⟩
  · rw [if_neg q1, if_neg q1]
    by_cases q2 : N1 < N
    · rw [if_pos q2, if_pos q2]
      go_enter Tryz.func84, Tryz.ntmps84
      go_upto_region 2 with fail
      go_wp2_with (go_at_call 88; refine (TK.out).mono ?_)
      first | (rintro e w1 ⟨he, h1, g1⟩; have he' := he) | (rintro e w1 he h1 g1)
      subst he
      have H1 : Hid (RdAt g (some b) n c p8 a 0 w1) := h1
      have G1 : Hid (w.grownBy w1 (some g)) := g1
      clear h1 g1 c0 c1 c2 c3
      obtain ⟨c0, c1, c2, c3⟩ := H1.out.cs
      go_upto_region 5 with fail
      go_quiet (fail)
      obtain ⟨W, eW⟩ : ∃ W, W = w1.drewN nq := ⟨_, rfl⟩
      rw [← eW]
      have HW : Hid (RdAt g (some b) n c p8 a 0 W) := by rw [eW]; exact H1.out.drewN _
      have GW : Hid (w.grownBy W (some g)) := by rw [eW]; exact gb_drewN G1.out _
      clear eW c0 c1 c2 c3
      obtain ⟨c0, c1, c2, c3⟩ := HW.out.cs
      go_upto_region 6 with fail
      go_wp2_with (go_at_call 42; refine (FX.out _ n 2 HW.out).mono ?_)
      first | (rintro e w2 ⟨he, h2, g2⟩; have he' := he) | (rintro e w2 he h2 g2)
      subst he
      have H2 : Hid (RdAt g (some b) n c p8 n 2 w2) := h2
      have G2 : Hid (w.grownBy w2 (some g)) := gb_trans GW.out g2
      clear h2 g2
      go_wp2
      go_ret
      exact ⟨rfl, H2.out, G2.out⟩
    · rw [if_neg q2, if_neg q2]
      go_enter Tryz.func84, Tryz.ntmps84
      go_upto_region 2 with fail
      go_wp2_with (go_at_call 88; refine (TK.out).mono ?_)
      first | (rintro e w1 ⟨he, h1, g1⟩; have he' := he) | (rintro e w1 he h1 g1)
      subst he
      have H1 : Hid (RdAt g (some b) n c p8 a 0 w1) := h1
      have G1 : Hid (w.grownBy w1 (some g)) := g1
      clear h1 g1 c0 c1 c2 c3
      obtain ⟨c0, c1, c2, c3⟩ := H1.out.cs
      go_upto_region 5 with fail
      go_quiet (fail)
      go_wp2
      go_ret
      exact ⟨rfl, H1.out.drewN _, gb_drewN G1.out _⟩
end Go.Proofs.YtkickdmomompjaaGreat
namespace Go.Proofs.YtkickdmomompjaaGreat
set_option linter.unusedVariables false
open Go.RowKit
set_option maxRecDepth 20000 in
set_option maxHeartbeats 4000000 in
/-- A count that fails leaves no text. -/
theorem textX_of (g : Nat) (x : Option Addr) (n c p p' : Nat) (N A Y : Int) (w : World) (hp : p' ≤ n) (hn : n ≤ 4194304) (hy : Y ≠ 0)
    (hc : Calls Tryz.prog 84 #[.pointer (some ⟨g, 0, none⟩)] w fun e w' => e = .returned (.int .i64 N) ∧ RdAt g x n c p' A Y w' ∧ w.grownBy w' (some g)) :
    Calls Tryz.prog 69 #[.pointer (some ⟨g, 0, none⟩)] w fun e w' => e = .returned (.string ByteArray.empty) ∧ RdAt g x n c p' A Y w' ∧ w.grownBy w' (some g) := by
  have TK : Hid (Calls Tryz.prog 84 #[.pointer (some ⟨g, 0, none⟩)] w fun e w' => e = .returned (.int .i64 N) ∧ RdAt g x n c p' A Y w' ∧ w.grownBy w' (some g)) := hc
  have TX : Hid (∀ V, RdAt g x n c p' A Y V → Calls Tryz.prog 85 #[.pointer (some ⟨g, 0, none⟩), .int .i64 N] V fun e w' => e = .returned (.slice none 0 0) ∧ RdAt g x n c p' A Y w' ∧ V.grownBy w' (some g)) := fun V hV => by
    have q := takeX_no g x n c p' N A Y V hV hp hn (Or.inl hy)
    rw [if_neg hy, if_neg hy] at q
    exact q
  clear hc hp hn hy
  go_enter Tryz.func69, Tryz.ntmps69
  go_wp2_with (go_at_call 84; refine (TK.out).mono ?_)
  first | (rintro e w1 ⟨he, h1, g1⟩; have he' := he) | (rintro e w1 he h1 g1)
  subst he
  have H1 : Hid (RdAt g x n c p' A Y w1) := h1
  have G1 : Hid (w.grownBy w1 (some g)) := g1
  clear h1 g1
  go_wp2_with (go_at_call 85; refine (TX.out _ H1.out).mono ?_)
  first | (rintro e w2 ⟨he, h2, g2⟩; have he' := he) | (rintro e w2 he h2 g2)
  subst he
  have H2 : Hid (RdAt g x n c p' A Y w2) := h2
  have G2 : Hid (w.grownBy w2 (some g)) := gb_trans G1.out g2
  clear h2 g2
  have cv : (convert 27 9 (.slice none 0 0)).run Tryz.prog w2 = .ok (.string ByteArray.empty) w2 := by
    exact run_convert_bytes_nil (P := Tryz.prog) (w := w2) 27 5 (by kernel_rfl) (by kernel_rfl) 0 0 9 (by kernel_rfl)
  go_wp2
  go_ret
  exact ⟨rfl, H2.out, G2.out⟩
theorem textX_no (g : Nat) (x : Option Addr) (n c p : Nat) (a y : Int) (w : World) (h : RdAt g x n c p a y w) (hp : p ≤ n) (hn : n ≤ 4194304) (hk : y ≠ 0 ∨ n < p + 8) :
    Calls Tryz.prog 69 #[.pointer (some ⟨g, 0, none⟩)] w fun e w' => e = .returned (.string ByteArray.empty) ∧ RdAt g x n c p (if y = 0 then (n : Int) else a) (if y = 0 then 2 else y) w' ∧ w.grownBy w' (some g) :=
  textX_of g x n c p p 0 _ _ w hp hn (by by_cases q : y = 0 <;> simp [q]) (countX_no g x n c p a y w h hp hn hk)
set_option maxRecDepth 20000 in
set_option maxHeartbeats 4000000 in
/-- A count that holds is followed by its text. -/
theorem textX_ok (g kb o : Nat) (n c p k : Nat) (a : Int) (ts : List Nat) (w : World) (hk : p + k ≤ n) (hn : n ≤ 4194304) (hcc : n < c) (hb : kb ≠ g) (hl : ts.length = k) (hv : ∀ (j : Nat) v, ts[j]? = some v → w.cell? ⟨kb, o + p + j, none⟩ = some (.int .u8 v))
    (hc : Calls Tryz.prog 84 #[.pointer (some ⟨g, 0, none⟩)] w fun e w' => e = .returned (.int .i64 k) ∧ RdAt g (some ⟨kb, o, none⟩) n c p a 0 w' ∧ w.grownBy w' (some g)) :
    Calls Tryz.prog 69 #[.pointer (some ⟨g, 0, none⟩)] w fun e w' => e = .returned (.string (strOfNums (ts.map Int.ofNat))) ∧ RdAt g (some ⟨kb, o, none⟩) n c (p + k) a 0 w' ∧ w.grownBy w' (some g) := by
  have TK : Hid (Calls Tryz.prog 84 #[.pointer (some ⟨g, 0, none⟩)] w fun e w' => e = .returned (.int .i64 k) ∧ RdAt g (some ⟨kb, o, none⟩) n c p a 0 w' ∧ w.grownBy w' (some g)) := hc
  have TX : Hid (∀ V, RdAt g (some ⟨kb, o, none⟩) n c p a 0 V → Calls Tryz.prog 85 #[.pointer (some ⟨g, 0, none⟩), .int .i64 k] V fun e w' => e = .returned (.slice (some ⟨kb, o + p, none⟩) k (c - p)) ∧ RdAt g (some ⟨kb, o, none⟩) n c (p + k) a 0 w' ∧ V.grownBy w' (some g)) := fun V hV => by
    have q := takeX_ok g ⟨kb, o, none⟩ n c p k a V hV hk hn hcc
    have e : (⟨kb, o, none⟩ : Addr).add p = ⟨kb, o + p, none⟩ := by unfold Addr.add; split <;> simp_all
    rw [e] at q
    exact q
  have CV : Hid (∀ V, w.grownBy V (some g) → (convert 27 9 (.slice (some ⟨kb, o + p, none⟩) k (c - p))).run Tryz.prog V = .ok (.string (strOfNums (ts.map Int.ofNat))) V) := fun V hV =>
    run_convert_bytes_arg (P := Tryz.prog) V 27 5 (by kernel_rfl) (by kernel_rfl) kb (o + p) k (c - p) (ts.map Int.ofNat) (by rw [List.length_map]; omega) (fun i hi => by
      obtain ⟨v, hvi⟩ : ∃ v, ts[i]? = some v := ⟨_, List.getElem?_eq_getElem (by omega)⟩
      have q := hV.cell (hv i v hvi) (by intro q; cases q; exact hb rfl)
      rw [q]
      simp [List.getD, List.getElem?_map, hvi]) 9 (by kernel_rfl)
  generalize strOfNums (ts.map Int.ofNat) = s at *
  clear hc hk hn hcc hb hl hv
  obtain ⟨o2, eo⟩ : ∃ o2, o2 = o + p := ⟨_, rfl⟩
  obtain ⟨c2, ec⟩ : ∃ c2, c2 = c - p := ⟨_, rfl⟩
  obtain ⟨p2, ep⟩ : ∃ p2, p2 = p + k := ⟨_, rfl⟩
  rw [← eo, ← ec] at TX CV
  rw [← ep] at TX
  rw [← ep]
  clear eo ec ep
  go_enter Tryz.func69, Tryz.ntmps69
  go_wp2_with (go_at_call 84; refine (TK.out).mono ?_)
  first | (rintro e w1 ⟨he, h1, g1⟩; have he' := he) | (rintro e w1 he h1 g1)
  subst he
  have H1 : Hid (RdAt g (some ⟨kb, o, none⟩) n c p a 0 w1) := h1
  have G1 : Hid (w.grownBy w1 (some g)) := g1
  clear h1 g1
  go_wp2_with (go_at_call 85; refine (TX.out _ H1.out).mono ?_)
  first | (rintro e w2 ⟨he, h2, g2⟩; have he' := he) | (rintro e w2 he h2 g2)
  subst he
  have H2 : Hid (RdAt g (some ⟨kb, o, none⟩) n c p2 a 0 w2) := h2
  have G2 : Hid (w.grownBy w2 (some g)) := gb_trans G1.out g2
  clear h2 g2
  have cv := CV.out w2 G2.out
  go_wp2
  go_ret
  exact ⟨rfl, H2.out, G2.out⟩
end Go.Proofs.YtkickdmomompjaaGreat
namespace Go.Proofs.YtkickdmomompjaaGreat
set_option linter.unusedVariables false
open Go.RowKit
/-- Where a reader stands: its place, its fault's place and number. -/
structure RS where
  p : Nat
  a : Int
  y : Int
/-- Behind something that is not all there. -/
def RS.no (s : RS) (n : Nat) : RS := ⟨s.p, if s.y = 0 then (n : Int) else s.a, if s.y = 0 then 2 else s.y⟩
theorem RS.no_y (s : RS) (n : Nat) : (s.no n).y ≠ 0 := by
  unfold RS.no
  by_cases q : s.y = 0 <;> simp [q]
def rdB (bs : List Nat) (s : RS) : Nat × RS := if s.y = 0 ∧ s.p < bs.length then (bs.getD s.p 0, ⟨s.p + 1, s.a, 0⟩) else (0, s.no bs.length)
def rdN (bs : List Nat) (s : RS) : Int × RS := if s.y = 0 ∧ s.p + 8 ≤ bs.length then (wrap64 (leN ((bs.drop s.p).take 8) : Int), ⟨s.p + 8, s.a, 0⟩) else (0, s.no bs.length)
def rdF (bs : List Nat) (s : RS) : Bool × RS := ((rdB bs s).1 == 1, if 1 < (rdB bs s).1 then ⟨s.p + 1, s.p, 203⟩ else (rdB bs s).2)
def rdC (bs : List Nat) (s : RS) : Int × RS := ((rdN bs s).1, if (rdN bs s).2.y = 0 then (if (rdN bs s).1 < 0 then ⟨s.p + 8, s.p, 4⟩ else if (bs.length : Int) - (s.p + 8) < (rdN bs s).1 then ⟨s.p + 8, bs.length, 2⟩ else (rdN bs s).2) else (rdN bs s).2)
def rdT (bs : List Nat) (s : RS) : ByteArray × RS := if (rdC bs s).2.y = 0 then (strOfNums (((bs.drop (rdC bs s).2.p).take (rdC bs s).1.toNat).map Int.ofNat), ⟨(rdC bs s).2.p + (rdC bs s).1.toNat, (rdC bs s).2.a, 0⟩) else (ByteArray.empty, (rdC bs s).2)
/-- Bytes lie in a block. -/
def ByAt (kb o : Nat) (bs : List Nat) (w : World) : Prop := ∀ (j : Nat) v, bs[j]? = some v → w.cell? ⟨kb, o + j, none⟩ = some (.int .u8 v)
/-- A reader over bytes. -/
structure Rd (g kb o c : Nat) (bs : List Nat) (s : RS) (w : World) : Prop where
  at_ : RdAt g (some ⟨kb, o, none⟩) bs.length c s.p s.a s.y w
  by_ : ByAt kb o bs w
  le : s.p ≤ bs.length
  n4 : bs.length ≤ 4194304
  nc : bs.length < c
  ne : kb ≠ g
  kl : kb < w.heap.size
  b8 : ∀ v ∈ bs, v < 256
theorem Rd.to {g kb o c : Nat} {bs : List Nat} {s s' : RS} {w w' : World} (h : Rd g kb o c bs s w) (hr : RdAt g (some ⟨kb, o, none⟩) bs.length c s'.p s'.a s'.y w') (hg : w.grownBy w' (some g)) (hp : s'.p ≤ bs.length) : Rd g kb o c bs s' w' :=
  ⟨hr, fun j v hj => hg.cell (h.by_ j v hj) (by intro q; cases q; exact h.ne rfl), hp, h.n4, h.nc, h.ne, Nat.lt_of_lt_of_le h.kl hg.size, h.b8⟩
theorem Rd.other {g kb o c : Nat} {bs : List Nat} {s : RS} {w w' : World} (h : Rd g kb o c bs s w) (hg : w.grownBy w' none) (hlt : g < w.heap.size) : Rd g kb o c bs s w' :=
  ⟨by have := h.at_; unfold RdAt at *; rw [hg.block g hlt (by simp)]; exact this, fun j v hj => hg.cell (h.by_ j v hj) (by simp), h.le, h.n4, h.nc, h.ne, Nat.lt_of_lt_of_le h.kl hg.size, h.b8⟩
/-- What a method of a reader does. -/
def RdM (F g kb o c : Nat) (bs : List Nat) (v : RS → Value) (nx : RS → RS) : Prop :=
  ∀ (s : RS) (w : World), Rd g kb o c bs s w → Calls Tryz.prog F #[.pointer (some ⟨g, 0, none⟩)] w fun e w' => e = .returned (v s) ∧ Rd g kb o c bs (nx s) w' ∧ w.grownBy w' (some g)
theorem add_kb (kb o p : Nat) : (⟨kb, o, none⟩ : Addr).add p = ⟨kb, o + p, none⟩ := by unfold Addr.add; split <;> simp_all
theorem rawM (g kb o c : Nat) (bs : List Nat) : RdM 86 g kb o c bs (fun s => .int .u8 (rdB bs s).1) (fun s => (rdB bs s).2) := by
  intro s w h
  show Calls _ _ _ _ fun e w' => e = .returned (.int .u8 (rdB bs s).1) ∧ Rd g kb o c bs (rdB bs s).2 w' ∧ _
  unfold rdB
  by_cases q : s.y = 0 ∧ s.p < bs.length
  · rw [if_pos q]
    have hr := h.at_
    rw [q.1] at hr
    have e : bs[s.p]? = some (bs.getD s.p 0) := by rw [List.getD_eq_getElem?_getD, List.getElem?_eq_getElem q.2]; rfl
    refine (rawX_ok g ⟨kb, o, none⟩ bs.length c s.p (bs.getD s.p 0) s.a w hr q.2 h.n4 h.nc h.ne (by rw [add_kb]; exact h.by_ _ _ e)).mono ?_
    rintro e w1 ⟨he, h1, g1⟩
    exact ⟨he, h.to (s' := ⟨s.p + 1, s.a, 0⟩) h1 g1 (show s.p + 1 ≤ _ by omega), g1⟩
  · rw [if_neg q]
    refine (rawX_no g (some ⟨kb, o, none⟩) bs.length c s.p s.a s.y w h.at_ h.le h.n4 (by have := h.le; omega)).mono ?_
    rintro e w1 ⟨he, h1, g1⟩
    exact ⟨he, h.to (s' := s.no bs.length) h1 g1 h.le, g1⟩
theorem drop_get (bs : List Nat) (p k : Nat) {j v : Nat} (h : ((bs.drop p).take k)[j]? = some v) : bs[p + j]? = some v := by
  rw [List.getElem?_take] at h
  split at h
  · rw [List.getElem?_drop] at h; exact h
  · cases h
theorem drop_len (bs : List Nat) (p k : Nat) (h : p + k ≤ bs.length) : ((bs.drop p).take k).length = k := by rw [List.length_take, List.length_drop]; omega
theorem drop_mem {bs : List Nat} {p k : Nat} (h : ∀ v ∈ bs, v < 256) : ∀ v ∈ (bs.drop p).take k, v < 256 := fun v hv => h v (List.mem_of_mem_drop (List.mem_of_mem_take hv))
theorem numM (g kb o c : Nat) (bs : List Nat) : RdM 88 g kb o c bs (fun s => .int .i64 (rdN bs s).1) (fun s => (rdN bs s).2) := by
  intro s w h
  show Calls _ _ _ _ fun e w' => e = .returned (.int .i64 (rdN bs s).1) ∧ Rd g kb o c bs (rdN bs s).2 w' ∧ _
  unfold rdN
  by_cases q : s.y = 0 ∧ s.p + 8 ≤ bs.length
  · rw [if_pos q]
    have hr := h.at_
    rw [q.1] at hr
    refine (numberX_ok g ⟨kb, o, none⟩ bs.length c s.p s.a ((bs.drop s.p).take 8) w hr q.2 h.n4 h.nc h.ne (drop_len _ _ _ q.2) (drop_mem h.b8) (fun j v hj => by rw [add_kb, add_kb, Nat.add_assoc]; exact h.by_ _ _ (drop_get _ _ _ hj))).mono ?_
    rintro e w1 ⟨he, h1, g1⟩
    exact ⟨he, h.to (s' := ⟨s.p + 8, s.a, 0⟩) h1 g1 q.2, g1⟩
  · rw [if_neg q]
    refine (numberX_no g (some ⟨kb, o, none⟩) bs.length c s.p s.a s.y w h.at_ h.le h.n4 (by omega)).mono ?_
    rintro e w1 ⟨he, h1, g1⟩
    exact ⟨he, h.to (s' := s.no bs.length) h1 g1 h.le, g1⟩
theorem flgM (g kb o c : Nat) (bs : List Nat) : RdM 87 g kb o c bs (fun s => .bool (rdF bs s).1) (fun s => (rdF bs s).2) := by
  intro s w h
  show Calls _ _ _ _ fun e w' => e = .returned (.bool (rdF bs s).1) ∧ Rd g kb o c bs (rdF bs s).2 w' ∧ _
  unfold rdF rdB
  by_cases q : s.y = 0 ∧ s.p < bs.length
  · rw [if_pos q]
    have hr := h.at_
    rw [q.1] at hr
    have e : bs[s.p]? = some (bs.getD s.p 0) := by rw [List.getD_eq_getElem?_getD, List.getElem?_eq_getElem q.2]; rfl
    refine (flagX_ok g ⟨kb, o, none⟩ bs.length c s.p (bs.getD s.p 0) s.a w hr q.2 h.n4 h.nc h.ne (by rw [add_kb]; exact h.by_ _ _ e)).mono ?_
    rintro e w1 ⟨he, h1, g1⟩
    refine ⟨he, ?_, g1⟩
    show Rd g kb o c bs (if 1 < bs.getD s.p 0 then ⟨s.p + 1, s.p, 203⟩ else ⟨s.p + 1, s.a, 0⟩) w1
    by_cases r : 1 < bs.getD s.p 0
    · rw [if_pos r] at h1 ⊢
      rw [if_pos r] at h1
      exact h.to (s' := ⟨s.p + 1, s.p, 203⟩) h1 g1 (show s.p + 1 ≤ _ by omega)
    · rw [if_neg r] at h1 ⊢
      rw [if_neg r] at h1
      exact h.to (s' := ⟨s.p + 1, s.a, 0⟩) h1 g1 (show s.p + 1 ≤ _ by omega)
  · rw [if_neg q]
    refine (flagX_no g (some ⟨kb, o, none⟩) bs.length c s.p s.a s.y w h.at_ h.le h.n4 (by have := h.le; omega)).mono ?_
    rintro e w1 ⟨he, h1, g1⟩
    exact ⟨he, h.to (s' := s.no bs.length) h1 g1 h.le, g1⟩
theorem cntM (g kb o c : Nat) (bs : List Nat) : RdM 84 g kb o c bs (fun s => .int .i64 (rdC bs s).1) (fun s => (rdC bs s).2) := by
  intro s w h
  show Calls _ _ _ _ fun e w' => e = .returned (.int .i64 (rdC bs s).1) ∧ Rd g kb o c bs (rdC bs s).2 w' ∧ _
  unfold rdC rdN
  by_cases q : s.y = 0 ∧ s.p + 8 ≤ bs.length
  · rw [if_pos q]
    have hr := h.at_
    rw [q.1] at hr
    refine (countX_ok g ⟨kb, o, none⟩ bs.length c s.p s.a ((bs.drop s.p).take 8) w hr q.2 h.n4 h.nc h.ne (drop_len _ _ _ q.2) (drop_mem h.b8) (fun j v hj => by rw [add_kb, add_kb, Nat.add_assoc]; exact h.by_ _ _ (drop_get _ _ _ hj))).mono ?_
    rintro e w1 ⟨he, h1, g1⟩
    refine ⟨he, ?_, g1⟩
    rw [if_pos (show (⟨s.p + 8, s.a, 0⟩ : RS).y = 0 from rfl)]
    show Rd g kb o c bs (if wrap64 (leN ((bs.drop s.p).take 8) : Int) < 0 then ⟨s.p + 8, s.p, 4⟩ else if (bs.length : Int) - (s.p + 8) < wrap64 (leN ((bs.drop s.p).take 8) : Int) then ⟨s.p + 8, bs.length, 2⟩ else ⟨s.p + 8, s.a, 0⟩) w1
    generalize wrap64 (leN ((bs.drop s.p).take 8) : Int) = N at *
    by_cases r : N < 0
    · rw [if_pos r] at h1 ⊢
      rw [if_pos r] at h1
      exact h.to (s' := ⟨s.p + 8, s.p, 4⟩) h1 g1 q.2
    · rw [if_neg r] at h1 ⊢
      rw [if_neg r] at h1
      by_cases t : (bs.length : Int) - (s.p + 8) < N
      · rw [if_pos t] at h1 ⊢
        rw [if_pos t] at h1
        exact h.to (s' := ⟨s.p + 8, bs.length, 2⟩) h1 g1 q.2
      · rw [if_neg t] at h1 ⊢
        rw [if_neg t] at h1
        exact h.to (s' := ⟨s.p + 8, s.a, 0⟩) h1 g1 q.2
  · rw [if_neg q]
    refine (countX_no g (some ⟨kb, o, none⟩) bs.length c s.p s.a s.y w h.at_ h.le h.n4 (by omega)).mono ?_
    rintro e w1 ⟨he, h1, g1⟩
    refine ⟨he, ?_, g1⟩
    rw [if_neg (show ¬ (s.no bs.length).y = 0 from RS.no_y _ _)]
    exact h.to (s' := s.no bs.length) h1 g1 h.le
/-- What a count that holds says. -/
theorem rdC_ok {bs : List Nat} {s : RS} (h : (rdC bs s).2.y = 0) : 0 ≤ (rdC bs s).1 ∧ (rdC bs s).2.p + (rdC bs s).1.toNat ≤ bs.length := by
  unfold rdC at *
  generalize hN : rdN bs s = R at *
  obtain ⟨N, t⟩ := R
  dsimp only at *
  have e : t.y = 0 → t.p = s.p + 8 ∧ s.p + 8 ≤ bs.length := by
    intro ht
    unfold rdN at hN
    split at hN
    · rename_i q
      cases hN
      exact ⟨rfl, q.2⟩
    · cases hN
      exact absurd ht (RS.no_y _ _)
  by_cases q0 : t.y = 0
  · obtain ⟨e1, e2⟩ := e q0
    rw [if_pos q0] at h ⊢
    by_cases q1 : N < 0
    · rw [if_pos q1] at h; exact absurd h (show ¬ (4 : Int) = 0 by decide)
    · rw [if_neg q1] at h ⊢
      by_cases q2 : (bs.length : Int) - (s.p + 8) < N
      · rw [if_pos q2] at h; exact absurd h (show ¬ (2 : Int) = 0 by decide)
      · rw [if_neg q2]; omega
  · rw [if_neg q0] at h; exact absurd h q0
theorem rdN_le {bs : List Nat} {s : RS} (h : s.p ≤ bs.length) : (rdN bs s).2.p ≤ bs.length := by
  unfold rdN
  split
  · rename_i q; exact q.2
  · exact h
theorem rdC_le {bs : List Nat} {s : RS} (h : s.p ≤ bs.length) : (rdC bs s).2.p ≤ bs.length := by
  have k := rdN_le h
  unfold rdC
  unfold rdN at *
  by_cases q : s.y = 0 ∧ s.p + 8 ≤ bs.length
  · rw [if_pos q] at *
    rw [if_pos (show (⟨s.p + 8, s.a, 0⟩ : RS).y = 0 from rfl)]
    split
    · exact q.2
    · split
      · exact q.2
      · exact q.2
  · rw [if_neg q] at *
    rw [if_neg (show ¬ (s.no bs.length).y = 0 from RS.no_y _ _)]
    exact h
theorem txtM (g kb o c : Nat) (bs : List Nat) : RdM 69 g kb o c bs (fun s => .string (rdT bs s).1) (fun s => (rdT bs s).2) := by
  intro s w h
  show Calls _ _ _ _ fun e w' => e = .returned (.string (rdT bs s).1) ∧ Rd g kb o c bs (rdT bs s).2 w' ∧ _
  have hc : Calls Tryz.prog 84 #[.pointer (some ⟨g, 0, none⟩)] w fun e w' => e = .returned (.int .i64 (rdC bs s).1) ∧ Rd g kb o c bs (rdC bs s).2 w' ∧ w.grownBy w' (some g) := cntM g kb o c bs s w h
  have tp := rdC_le h.le
  unfold rdT
  by_cases q : (rdC bs s).2.y = 0
  · rw [if_pos q]
    obtain ⟨k0, k1⟩ := rdC_ok q
    generalize rdC bs s = R at *
    obtain ⟨N, t⟩ := R
    dsimp only at *
    obtain ⟨k, rfl⟩ : ∃ k : Nat, N = k := ⟨N.toNat, by omega⟩
    rw [Int.toNat_natCast] at *
    refine (textX_ok g kb o bs.length c t.p k t.a ((bs.drop t.p).take k) w k1 h.n4 h.nc h.ne (drop_len _ _ _ k1) (fun j v hj => by rw [Nat.add_assoc]; exact h.by_ _ _ (drop_get _ _ _ hj)) (hc.mono fun e w' ⟨he, h1, g1⟩ => ⟨he, by have := h1.at_; rw [q] at this; exact this, g1⟩)).mono ?_
    rintro e w1 ⟨he, h1, g1⟩
    exact ⟨he, h.to (s' := ⟨t.p + k, t.a, 0⟩) h1 g1 k1, g1⟩
  · rw [if_neg q]
    generalize rdC bs s = R at *
    obtain ⟨N, t⟩ := R
    dsimp only at *
    refine (textX_of g (some ⟨kb, o, none⟩) bs.length c s.p t.p N t.a t.y w tp h.n4 q (hc.mono fun e w' ⟨he, h1, g1⟩ => ⟨he, h1.at_, g1⟩)).mono ?_
    rintro e w1 ⟨he, h1, g1⟩
    exact ⟨he, h.to (s' := t) h1 g1 tp, g1⟩
end Go.Proofs.YtkickdmomompjaaGreat
