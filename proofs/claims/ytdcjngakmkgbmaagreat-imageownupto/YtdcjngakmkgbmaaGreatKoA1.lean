/- Rows of records copied; no statement of the seat is proved here. -/
import Derived.Test.YtdcjngakmkgbmaaGreatRows
import Derived.WalkKit
import Derived.WalkSpells
import Derived.WalkLawsBesides
import Derived.BigQuiet
import Derived.Below
import Derived.Handy
import Derived.Lib.Builder
import Derived.Deep.Cut
import Derived.Deep.Light
import Derived.Laws.BytesArg
import Derived.OwnWalk
import Derived.Laws.CopyOwn
import Derived.Deep.WholeRow
import Derived.Maps.AppendAt
namespace Go.Proofs.YtdcjngakmkgbmaaGreat
set_option linter.unusedVariables false
open Go.RowKit
/-- A world in which nothing old has turned. -/
structure Sub (W : World) where
  w : World
  h : Below W.heap.size W w
theorem Sub.cell {W : World} (x : Sub W) (b o : Nat) (h : b < W.heap.size) : x.w.cell? ⟨b, o, none⟩ = W.cell? ⟨b, o, none⟩ := x.h.cell (p := ⟨b, o, none⟩) h
/-- One walk, in the text's order, of a region whose order Go leaves open, where each operation yields one value in every such world and leaves such a world. -/
theorem wp_region_sub {P : Program} {id : Nat} {Q : Exit → Act → World → Prop} {a : Act} {w : World} {l : List Oper} (hm : P.follows .mixedOrders = true) (hB : Region.lexB .any l.toArray = true)
    (h : wpQuiet P l.toArray (fun w' => ∃ x : Sub w, w' = x.w) (fun a' => ∀ w', (∃ x : Sub w, w' = x.w) → Q .normal a' w') l a) : (Code.region id l.toArray true).wp P Q a w :=
  wp_region_quiet (C := fun w' => ∃ x : Sub w, w' = x.w) hm hB ⟨⟨w.drew, (Below.refl _ _).drew⟩, rfl⟩ (by simpa using h)
theorem wp_region_sub2 {P : Program} {id : Nat} {Q : Exit → Act → World → Prop} {a : Act} {w : World} {l : List Oper} (hm : P.follows .mixedOrders = true) (hB : Region.lexB .any l.toArray = true)
    (h : (∀ (x : Sub w) (b o : Nat), b < w.heap.size → x.w.cell? ⟨b, o, none⟩ = w.cell? ⟨b, o, none⟩) → wpQuiet P l.toArray (fun w' => ∃ x : Sub w, w' = x.w) (fun a' => ∀ w', (∃ x : Sub w, w' = x.w) → Q .normal a' w') l a) : (Code.region id l.toArray true).wp P Q a w :=
  wp_region_sub hm hB (h fun x b o hb => x.cell b o hb)
theorem calls_sub {P : Program} {f : FuncId} {args : Array Value} {W : World} {x : Sub W} {v : Value} (h : Calls P f args x.w fun e w' => e = .returned v ∧ Below x.w.heap.size x.w w') :
    Calls P f args x.w fun e w'' => e = .returned v ∧ ∃ y : Sub W, w'' = y.w :=
  h.mono fun _ w' ⟨he, hb⟩ => ⟨he, ⟨w', x.h.trans (hb.mono x.h.size)⟩, rfl⟩
theorem calls_sub_same {P : Program} {f : FuncId} {args : Array Value} {W : World} {x : Sub W} {v : Value} (h : Calls P f args x.w fun e w' => e = .returned v ∧ w' = x.w) :
    Calls P f args x.w fun e w'' => e = .returned v ∧ ∃ y : Sub W, w'' = y.w :=
  h.mono fun _ w' ⟨he, hb⟩ => ⟨he, x, hb⟩
end Go.Proofs.YtdcjngakmkgbmaaGreat
namespace Go.Proofs.YtdcjngakmkgbmaaGreat
set_option linter.unusedVariables false
open Go.RowKit
/-- A reader in a block: its bytes, its place, its fault. -/
def RdAt (g : Nat) (x : Option Addr) (n c p : Nat) (a y : Int) (V : World) : Prop := V.heap[g]? = some (.cells #[.slice x n c, .int .i64 p, .int .i64 a, .int .i64 y] 88 (0, 0))
theorem RdAt.cs {g : Nat} {x : Option Addr} {n c p : Nat} {a y : Int} {V : World} (h : RdAt g x n c p a y V) : V.cell? ⟨g, 0, none⟩ = some (.slice x n c) ∧ V.cell? ⟨g, 1, none⟩ = some (.int .i64 p) ∧ V.cell? ⟨g, 2, none⟩ = some (.int .i64 a) ∧ V.cell? ⟨g, 3, none⟩ = some (.int .i64 y) := by
  unfold RdAt at h
  exact ⟨by simp [World.cell?, h], by simp [World.cell?, h], by simp [World.cell?, h], by simp [World.cell?, h]⟩
theorem RdAt.froz {g : Nat} {x : Option Addr} {n c p : Nat} {a y : Int} {V : World} (h : RdAt g x n c p a y V) (j : Nat) : V.frozen? ⟨g, j, none⟩ = false := by
  unfold RdAt at h
  simp [World.frozen?, h]
theorem gb_refl (w : World) (r : Option Nat) : w.grownBy w r := ⟨rfl, rfl, rfl, Nat.le_refl _, fun _ _ _ => rfl⟩
theorem gb_trans {a b c : World} {r : Option Nat} (h : a.grownBy b r) (k : b.grownBy c r) : a.grownBy c r := ⟨k.os.trans h.os, k.tape.trans h.tape, k.output.trans h.output, Nat.le_trans h.size k.size, fun i hi hr => (k.block i (Nat.lt_of_lt_of_le hi h.size) hr).trans (h.block i hi hr)⟩
theorem gb_set (w : World) (g j : Nat) (v : Value) : w.grownBy (w.setCell ⟨g, j, none⟩ v) (some g) := ⟨rfl, rfl, rfl, by simp [World.setCell], fun k _ hk => Below.heap_setCell _ _ _ _ (fun e => hk (by simp [e]))⟩
theorem RdAt.set1 {g : Nat} {x : Option Addr} {n c p : Nat} {a y : Int} {V : World} (h : RdAt g x n c p a y V) (q : Nat) : RdAt g x n c q a y (V.setCell ⟨g, 1, none⟩ (.int .i64 q)) := by
  unfold RdAt at *
  simp [World.setCell, Array.getElem?_modify, h]
theorem RdAt.set23 {g : Nat} {x : Option Addr} {n c p : Nat} {a y : Int} {V : World} (h : RdAt g x n c p a y V) (a' y' : Int) : RdAt g x n c p a' y' ((V.setCell ⟨g, 2, none⟩ (.int .i64 a')).setCell ⟨g, 3, none⟩ (.int .i64 y')) := by
  unfold RdAt at *
  simp [World.setCell, Array.getElem?_modify, h]
theorem RdAt.drewN {g : Nat} {x : Option Addr} {n c p : Nat} {a y : Int} {V : World} (h : RdAt g x n c p a y V) (k : Nat) : RdAt g x n c p a y (V.drewN k) := h
theorem gb_drewN {a b : World} {r : Option Nat} (h : a.grownBy b r) (k : Nat) : a.grownBy (b.drewN k) r := ⟨h.os, h.tape, h.output, h.size, h.block⟩
set_option maxRecDepth 20000 in
set_option maxHeartbeats 4000000 in
theorem failedX (g : Nat) (x : Option Addr) (n c p : Nat) (a y : Int) (w : World) (h : RdAt g x n c p a y w) :
    Calls Tryz.prog 74 #[.pointer (some ⟨g, 0, none⟩)] w fun e w' => e = .returned (.bool (y != 0)) ∧ w' = w := by
  obtain ⟨c0, c1, c2, c3⟩ := h.cs
  clear h
  go_enter Tryz.func74, Tryz.ntmps74
  go_wp2
  go_ret
  first | exact ⟨rfl, rfl⟩ | simp
set_option maxRecDepth 20000 in
set_option maxHeartbeats 4000000 in
theorem failX (g : Nat) (x : Option Addr) (n c p : Nat) (a y a' y' : Int) (w : World) (h : RdAt g x n c p a y w) :
    Calls Tryz.prog 34 #[.pointer (some ⟨g, 0, none⟩), .int .i64 a', .int .i64 y'] w fun e w' => e = .returned (.tuple #[]) ∧ RdAt g x n c p (if y = 0 then a' else a) (if y = 0 then y' else y) w' ∧ w.grownBy w' (some g) := by
  have H : Hid (RdAt g x n c p a y w) := h
  clear h
  obtain ⟨c0, c1, c2, c3⟩ := H.out.cs
  have z2 := H.out.froz 2
  have z3 := H.out.froz 3
  by_cases hy : y = 0
  · rw [if_pos hy, if_pos hy]
    have ny : (y != 0) = false := by simp [hy]
    have H1 : Hid (RdAt g x n c p a' y' ((w.setCell ⟨g, 2, none⟩ (.int .i64 a')).setCell ⟨g, 3, none⟩ (.int .i64 y'))) := H.out.set23 a' y'
    have G1 : Hid (w.grownBy ((w.setCell ⟨g, 2, none⟩ (.int .i64 a')).setCell ⟨g, 3, none⟩ (.int .i64 y')) (some g)) := gb_trans (gb_set _ _ _ _) (gb_set _ _ _ _)
    clear hy
    go_enter Tryz.func34, Tryz.ntmps34
    go_wp2_with (go_at_call 74; refine (failedX g x n c p a y _ H.out).mono ?_)
    first | (rintro e w1 ⟨he, hw⟩; have he' := he) | (rintro e w1 he hw)
    subst he
    rw [hw]
    clear hw w1
    go_wp2
    go_end0
    exact ⟨rfl, H1.out, G1.out⟩
  · rw [if_neg hy, if_neg hy]
    have ny : (y != 0) = true := by simp [hy]
    clear hy
    go_enter Tryz.func34, Tryz.ntmps34
    go_wp2_with (go_at_call 74; refine (failedX g x n c p a y _ H.out).mono ?_)
    first | (rintro e w1 ⟨he, hw⟩; have he' := he) | (rintro e w1 he hw)
    subst he
    rw [hw]
    clear hw w1
    go_wp2
    go_end0
    exact ⟨rfl, H.out, gb_refl _ _⟩
end Go.Proofs.YtdcjngakmkgbmaaGreat
namespace Go.Proofs.YtdcjngakmkgbmaaGreat
set_option linter.unusedVariables false
open Go.RowKit
set_option maxRecDepth 20000 in
set_option maxHeartbeats 4000000 in
theorem takeX_ok (g : Nat) (b : Addr) (n c p k : Nat) (a : Int) (w : World) (h : RdAt g (some b) n c p a 0 w) (hk : p + k ≤ n) (hn : n ≤ 4194304) (hc : n < c) :
    Calls Tryz.prog 100 #[.pointer (some ⟨g, 0, none⟩), .int .i64 k] w fun e w' => e = .returned (.slice (some (b.add p)) k (c - p)) ∧ RdAt g (some b) n c (p + k) a 0 w' ∧ w.grownBy w' (some g) := by
  have H : Hid (RdAt g (some b) n c p a 0 w) := h
  clear h
  obtain ⟨c0, c1, c2, c3⟩ := H.out.cs
  obtain ⟨N1, e1, l1⟩ : ∃ N1 : Int, wrap64 ((n : Int) - p) = N1 ∧ ¬ N1 < (k : Int) := ⟨_, rfl, by unfold wrap64; omega⟩
  obtain ⟨q, hq⟩ : ∃ q, q = p + k := ⟨_, rfl⟩
  have e2 : wrap64 ((p : Int) + k) = (q : Int) := by unfold wrap64; omega
  have e3 : wrap64 ((q : Int) - k) = (p : Int) := by unfold wrap64; omega
  have HQ : Hid (q = p + k ∧ q ≤ n ∧ n < c) := ⟨hq, by omega, hc⟩
  have t1 : ((p : Nat) : Int).toNat = p := by omega
  have t2 : ((q : Nat) : Int).toNat = q := by omega
  have q1 : p ≤ q := by omega
  have q2 : q ≤ c := by omega
  have q3 : (p : Int) ≤ q := by omega
  have q4 : (q : Int) ≤ c := by omega
  have q5 : q - p = k := by omega
  have q6 : ¬ c = p := by omega
  have q7 : ¬ c - p = 0 := by omega
  rw [← hq]
  clear hq hk hn hc
  go_enter Tryz.func100, Tryz.ntmps100
  go_upto_region 1 with fail
  go_quiet (fail)
  obtain ⟨W, eW⟩ : ∃ W, W = w.drewN nq := ⟨_, rfl⟩
  rw [← eW]
  have HW : Hid (RdAt g (some b) n c p a 0 W) := by rw [eW]; exact H.out.drewN _
  have GW : Hid (w.grownBy W (some g)) := by rw [eW]; exact gb_drewN (gb_refl _ _) _
  clear eW c0 c1 c2 c3
  obtain ⟨c0, c1, c2, c3⟩ := HW.out.cs
  have z1 := HW.out.froz 1
  have H1 : Hid (RdAt g (some b) n c q a 0 (W.setCell ⟨g, 1, none⟩ (.int .i64 (q : Int)))) := HW.out.set1 q
  have G1 : Hid (w.grownBy (W.setCell ⟨g, 1, none⟩ (.int .i64 (q : Int))) (some g)) := gb_trans GW.out (gb_set _ _ _ _)
  obtain ⟨d0, d1, d2, d3⟩ := H1.out.cs
  go_upto_region 3 with fail
  go_wp2_with (go_at_call 74; refine (failedX g _ n c p a 0 _ HW.out).mono ?_)
  try (first | (rintro e w1 ⟨he, hw⟩; have he' := he; subst he; rw [hw]; clear hw w1) | (rintro e w1 he hw; subst he; rw [hw]; clear hw w1))
  go_upto_region 6 with fail
  go_quiet (fail)
  go_wp2
  go_ret
  exact ⟨rfl, H1.out, gb_drewN G1.out _⟩
set_option maxRecDepth 20000 in
set_option maxHeartbeats 4000000 in
theorem takeX_no (g : Nat) (x : Option Addr) (n c p : Nat) (k a y : Int) (w : World) (h : RdAt g x n c p a y w) (hp : p ≤ n) (hn : n ≤ 4194304) (hk : y ≠ 0 ∨ (n : Int) < p + k) :
    Calls Tryz.prog 100 #[.pointer (some ⟨g, 0, none⟩), .int .i64 k] w fun e w' => e = .returned (.slice none 0 0) ∧ RdAt g x n c p (if y = 0 then (n : Int) else a) (if y = 0 then 2 else y) w' ∧ w.grownBy w' (some g) := by
  have H : Hid (RdAt g x n c p a y w) := h
  clear h
  obtain ⟨c0, c1, c2, c3⟩ := H.out.cs
  obtain ⟨N1, e1, hN⟩ : ∃ N1 : Int, wrap64 ((n : Int) - p) = N1 ∧ N1 = n - p := ⟨_, rfl, by unfold wrap64; omega⟩
  have F1 : Hid (∀ V, RdAt g x n c p a y V → Calls Tryz.prog 34 #[.pointer (some ⟨g, 0, none⟩), .int .i64 n, .int .i64 2] V fun e w' => e = .returned (.tuple #[]) ∧ RdAt g x n c p (if y = 0 then (n : Int) else a) (if y = 0 then 2 else y) w' ∧ V.grownBy w' (some g)) := fun V hV => failX g x n c p a y n 2 V hV
  have NY : Hid ((if y = 0 then (2 : Int) else y) ≠ 0) := by show _ ≠ _; by_cases q : y = 0 <;> simp [q]
  by_cases hl : N1 < k
  · generalize (if y = 0 then (n : Int) else a) = A at *
    generalize (if y = 0 then (2 : Int) else y) = Y at *
    have ny : (Y != 0) = true := by simp [NY.out]
    clear hk hN hp hn
    go_enter Tryz.func100, Tryz.ntmps100
    go_upto_region 1 with fail
    go_quiet (fail)
    obtain ⟨W, eW⟩ : ∃ W, W = w.drewN nq := ⟨_, rfl⟩
    rw [← eW]
    have HW : Hid (RdAt g x n c p a y W) := by rw [eW]; exact H.out.drewN _
    have GW : Hid (w.grownBy W (some g)) := by rw [eW]; exact gb_drewN (gb_refl _ _) _
    clear eW c0 c1 c2 c3
    obtain ⟨c0, c1, c2, c3⟩ := HW.out.cs
    go_upto_region 2 with fail
    go_wp2_with (go_at_call 34; refine (F1.out _ HW.out).mono ?_)
    first | (rintro e w1 ⟨he, h1, g1⟩; have he' := he) | (rintro e w1 he h1 g1)
    subst he
    have H1 : Hid (RdAt g x n c p A Y w1) := h1
    have G1 : Hid (w.grownBy w1 (some g)) := gb_trans GW.out g1
    clear h1 g1 c0 c1 c2 c3
    go_upto_region 3 with fail
    go_wp2_with (go_at_call 74; refine (failedX g _ n c p A Y _ H1.out).mono ?_)
    try (first | (rintro e w2 ⟨he, hw⟩; have he' := he; subst he; rw [hw]; clear hw w2) | (rintro e w2 he hw; subst he; rw [hw]; clear hw w2))
    go_wp2
    go_ret
    exact ⟨rfl, H1.out, G1.out⟩
  · have hy : y ≠ 0 := by rcases hk with q | q; exact q; omega
    rw [if_neg hy, if_neg hy]
    have ny : (y != 0) = true := by simp [hy]
    clear hk hN hp hn F1 NY hy
    go_enter Tryz.func100, Tryz.ntmps100
    go_upto_region 1 with fail
    go_quiet (fail)
    obtain ⟨W, eW⟩ : ∃ W, W = w.drewN nq := ⟨_, rfl⟩
    rw [← eW]
    have HW : Hid (RdAt g x n c p a y W) := by rw [eW]; exact H.out.drewN _
    have GW : Hid (w.grownBy W (some g)) := by rw [eW]; exact gb_drewN (gb_refl _ _) _
    clear eW c0 c1 c2 c3
    obtain ⟨c0, c1, c2, c3⟩ := HW.out.cs
    go_upto_region 3 with fail
    go_wp2_with (go_at_call 74; refine (failedX g _ n c p a y _ HW.out).mono ?_)
    try (first | (rintro e w1 ⟨he, hw⟩; have he' := he; subst he; rw [hw]; clear hw w1) | (rintro e w1 he hw; subst he; rw [hw]; clear hw w1))
    go_wp2
    go_ret
    exact ⟨rfl, HW.out, GW.out⟩
theorem add_block' (a : Addr) (n : Nat) : (a.add n).block = a.block := by unfold Addr.add; split <;> rfl
theorem add_zero' (a : Addr) : a.add 0 = a := by cases a; unfold Addr.add; split <;> simp_all
set_option maxRecDepth 20000 in
set_option maxHeartbeats 4000000 in
theorem rawX_ok (g : Nat) (b : Addr) (n c p v : Nat) (a : Int) (w : World) (h : RdAt g (some b) n c p a 0 w) (hk : p < n) (hn : n ≤ 4194304) (hc : n < c) (hb : b.block ≠ g) (hv : w.cell? (b.add p) = some (.int .u8 v)) :
    Calls Tryz.prog 101 #[.pointer (some ⟨g, 0, none⟩)] w fun e w' => e = .returned (.int .u8 v) ∧ RdAt g (some b) n c (p + 1) a 0 w' ∧ w.grownBy w' (some g) := by
  have TK : Hid (Calls Tryz.prog 100 #[.pointer (some ⟨g, 0, none⟩), .int .i64 1] w fun e w' => e = .returned (.slice (some (b.add p)) 1 (c - p)) ∧ RdAt g (some b) n c (p + 1) a 0 w' ∧ w.grownBy w' (some g)) := takeX_ok g b n c p 1 a w h (by omega) hn hc
  have HV : Hid (∀ V, w.grownBy V (some g) → V.cell? (b.add p) = some (.int .u8 v)) := fun V hV => hV.cell hv (by rw [add_block']; intro q; cases q; exact hb rfl)
  obtain ⟨b2, eb⟩ : ∃ b2, b2 = b.add p := ⟨_, rfl⟩
  rw [← eb] at TK HV
  clear eb h hk hn hc hb hv
  go_enter Tryz.func101, Tryz.ntmps101
  go_wp2_with (go_at_call 100; refine (TK.out).mono ?_)
  first | (rintro e w1 ⟨he, h1, g1⟩; have he' := he) | (rintro e w1 he h1 g1)
  subst he
  have H1 : Hid (RdAt g (some b) n c (p + 1) a 0 w1) := h1
  have v0 := HV.out w1 g1
  have v1 : w1.cell? (b2.add 0) = some (.int .u8 v) := by rw [add_zero']; exact v0
  have G1 : Hid (w.grownBy w1 (some g)) := g1
  clear h1 g1
  go_wp2
  go_ret
  exact ⟨rfl, H1.out, G1.out⟩
set_option maxRecDepth 20000 in
set_option maxHeartbeats 4000000 in
theorem rawX_no (g : Nat) (x : Option Addr) (n c p : Nat) (a y : Int) (w : World) (h : RdAt g x n c p a y w) (hp : p ≤ n) (hn : n ≤ 4194304) (hk : y ≠ 0 ∨ n = p) :
    Calls Tryz.prog 101 #[.pointer (some ⟨g, 0, none⟩)] w fun e w' => e = .returned (.int .u8 0) ∧ RdAt g x n c p (if y = 0 then (n : Int) else a) (if y = 0 then 2 else y) w' ∧ w.grownBy w' (some g) := by
  have TK : Hid (Calls Tryz.prog 100 #[.pointer (some ⟨g, 0, none⟩), .int .i64 1] w fun e w' => e = .returned (.slice none 0 0) ∧ RdAt g x n c p (if y = 0 then (n : Int) else a) (if y = 0 then 2 else y) w' ∧ w.grownBy w' (some g)) := takeX_no g x n c p 1 a y w h hp hn (by omega)
  generalize (if y = 0 then (n : Int) else a) = A at *
  generalize (if y = 0 then (2 : Int) else y) = Y at *
  clear h hk hn hp
  go_enter Tryz.func101, Tryz.ntmps101
  go_wp2_with (go_at_call 100; refine (TK.out).mono ?_)
  first | (rintro e w1 ⟨he, h1, g1⟩; have he' := he) | (rintro e w1 he h1 g1)
  subst he
  have H1 : Hid (RdAt g x n c p A Y w1) := h1
  have G1 : Hid (w.grownBy w1 (some g)) := g1
  clear h1 g1
  go_wp2
  go_ret
  exact ⟨rfl, H1.out, G1.out⟩
end Go.Proofs.YtdcjngakmkgbmaaGreat
namespace Go.Proofs.YtdcjngakmkgbmaaGreat
set_option linter.unusedVariables false
open Go.RowKit
/-- The number of bytes, the lowest first. -/
def leN : List Nat → Nat
  | [] => 0
  | b :: t => b + 256 * leN t
theorem leN_app (a b : List Nat) : leN (a ++ b) = leN a + 256 ^ a.length * leN b := by
  induction a with
  | nil => simp [leN]
  | cons x t ih =>
    show x + 256 * leN (t ++ b) = x + 256 * leN t + 256 ^ (t.length + 1) * leN b
    rw [ih, Nat.pow_succ, Nat.mul_add, Nat.mul_comm (256 ^ t.length) 256, Nat.mul_assoc]
    omega
theorem leN_lt {a : List Nat} (h : ∀ b ∈ a, b < 256) : leN a < 256 ^ a.length := by
  induction a with
  | nil => simp [leN]
  | cons x t ih =>
    have h1 := h x (by simp)
    have h2 := ih (fun b hb => h b (by simp [hb]))
    show x + 256 * leN t < 256 ^ (t.length + 1)
    rw [Nat.pow_succ]
    omega
theorem leN_take {l : List Nat} {k b : Nat} (h : l[k]? = some b) : leN (l.take (k + 1)) = leN (l.take k) + 256 ^ k * b := by
  have hk := (List.getElem?_eq_some_iff.1 h).1
  rw [List.take_add_one, h, leN_app, List.length_take, Nat.min_eq_left (by omega)]
  simp [leN]
theorem ofInt_wrap (z : Int) : BitVec.ofInt 64 (wrap64 z) = BitVec.ofInt 64 z := by
  apply BitVec.eq_of_toInt_eq
  rw [BitVec.toInt_ofInt, BitVec.toInt_ofInt]
  unfold wrap64
  rw [Int.bmod_def, Int.bmod_def]
  omega
theorem or_i64 {m b i : Nat} (hm : m < 256 ^ i) : bits .or .i64 (wrap64 (m : Int)) (wrap64 ((256 ^ i * b : Nat) : Int)) = wrap64 ((m + 256 ^ i * b : Nat) : Int) := by
  show IntKind.i64.wrap ((BitVec.ofInt 64 (wrap64 (m : Int)) ||| BitVec.ofInt 64 (wrap64 ((256 ^ i * b : Nat) : Int))).toNat : Int) = _
  rw [ofInt_wrap, ofInt_wrap]
  have e1 : BitVec.ofInt 64 (m : Int) = BitVec.ofNat 64 m := BitVec.ofInt_natCast 64 m
  have e2 : BitVec.ofInt 64 ((256 ^ i * b : Nat) : Int) = BitVec.ofNat 64 (256 ^ i * b) := BitVec.ofInt_natCast 64 (256 ^ i * b)
  rw [e1, e2]
  have e3 : BitVec.ofNat 64 m ||| BitVec.ofNat 64 (256 ^ i * b) = BitVec.ofNat 64 (m + 256 ^ i * b) := by
    apply BitVec.eq_of_toNat_eq
    rw [BitVec.toNat_or, BitVec.toNat_ofNat, BitVec.toNat_ofNat, BitVec.toNat_ofNat, ← Nat.or_mod_two_pow]
    congr 1
    have e4 : (256 : Nat) ^ i = 2 ^ (8 * i) := by rw [Nat.pow_mul]
    rw [e4] at hm ⊢
    rw [Nat.or_comm, ← Nat.two_pow_add_eq_or_of_lt hm, Nat.add_comm]
  rw [e3, BitVec.toNat_ofNat]
  have e5 : ∀ z : Int, IntKind.i64.wrap z = wrap64 z := fun z => by
    show (if (true && decide (z % 18446744073709551616 ≥ 9223372036854775808)) = true then z % 18446744073709551616 - 18446744073709551616 else z % 18446744073709551616) = wrap64 z
    unfold wrap64
    by_cases q : z % 18446744073709551616 ≥ 9223372036854775808
    · rw [if_pos (by simpa using q)]; omega
    · rw [if_neg (by simpa using q)]; omega
  rw [e5]
  generalize m + 256 ^ i * b = z
  have e6 : ((z % 2 ^ 64 : Nat) : Int) = (z : Int) % 18446744073709551616 := by omega
  rw [e6]
  unfold wrap64
  omega
set_option maxRecDepth 20000 in
set_option maxHeartbeats 4000000 in
theorem numberX_no (g : Nat) (x : Option Addr) (n c p : Nat) (a y : Int) (w : World) (h : RdAt g x n c p a y w) (hp : p ≤ n) (hn : n ≤ 4194304) (hk : y ≠ 0 ∨ n < p + 8) :
    Calls Tryz.prog 103 #[.pointer (some ⟨g, 0, none⟩)] w fun e w' => e = .returned (.int .i64 0) ∧ RdAt g x n c p (if y = 0 then (n : Int) else a) (if y = 0 then 2 else y) w' ∧ w.grownBy w' (some g) := by
  have TK : Hid (Calls Tryz.prog 100 #[.pointer (some ⟨g, 0, none⟩), .int .i64 8] w fun e w' => e = .returned (.slice none 0 0) ∧ RdAt g x n c p (if y = 0 then (n : Int) else a) (if y = 0 then 2 else y) w' ∧ w.grownBy w' (some g)) := takeX_no g x n c p 8 a y w h hp hn (by omega)
  generalize (if y = 0 then (n : Int) else a) = A at *
  generalize (if y = 0 then (2 : Int) else y) = Y at *
  clear h hk hn hp
  go_enter Tryz.func103, Tryz.ntmps103
  go_upto_region 2 with fail
  go_wp2_with (go_at_call 100; refine (TK.out).mono ?_)
  first | (rintro e w1 ⟨he, h1, g1⟩; have he' := he) | (rintro e w1 he h1 g1)
  subst he
  have H1 : Hid (RdAt g x n c p A Y w1) := h1
  have G1 : Hid (w.grownBy w1 (some g)) := g1
  clear h1 g1
  go_wp2
  go_loopw [3, 9] (fun s i wr => s = .int .i64 0 ∧ i = .int .i64 0 ∧ wr = w1) (fun _ i _ => 0)
  case atStart => exact ⟨rfl, rfl, rfl⟩
  case round =>
    obtain ⟨rfl, rfl, hw⟩ := hrel
    rw [hw]
    clear hw wr
    go_wp2
    go_ret
    exact ⟨rfl, H1.out, G1.out⟩
set_option maxRecDepth 20000 in
set_option maxHeartbeats 4000000 in
theorem numberX_ok (g : Nat) (b : Addr) (n c p : Nat) (a : Int) (bs : List Nat) (w : World) (h : RdAt g (some b) n c p a 0 w) (hk : p + 8 ≤ n) (hn : n ≤ 4194304) (hc : n < c) (hb : b.block ≠ g) (hl : bs.length = 8) (h8 : ∀ v ∈ bs, v < 256) (hv : ∀ (j : Nat) v, bs[j]? = some v → w.cell? ((b.add p).add j) = some (.int .u8 v)) :
    Calls Tryz.prog 103 #[.pointer (some ⟨g, 0, none⟩)] w fun e w' => e = .returned (.int .i64 (wrap64 (leN bs : Int))) ∧ RdAt g (some b) n c (p + 8) a 0 w' ∧ w.grownBy w' (some g) := by
  have TK : Hid (Calls Tryz.prog 100 #[.pointer (some ⟨g, 0, none⟩), .int .i64 8] w fun e w' => e = .returned (.slice (some (b.add p)) 8 (c - p)) ∧ RdAt g (some b) n c (p + 8) a 0 w' ∧ w.grownBy w' (some g)) := takeX_ok g b n c p 8 a w h hk hn hc
  have HV : Hid (∀ V, w.grownBy V (some g) → ∀ (j : Nat) v, bs[j]? = some v → V.cell? ((b.add p).add j) = some (.int .u8 v)) := fun V hV j v hj => hV.cell (hv j v hj) (by rw [add_block', add_block']; intro q; cases q; exact hb rfl)
  have HL : Hid (bs.length = 8) := hl
  have H8 : Hid (∀ v ∈ bs, v < 256) := h8
  obtain ⟨b2, eb⟩ : ∃ b2, b2 = b.add p := ⟨_, rfl⟩
  rw [← eb] at TK HV
  clear eb h hk hn hc hb hv hl h8
  go_enter Tryz.func103, Tryz.ntmps103
  go_upto_region 2 with fail
  go_wp2_with (go_at_call 100; refine (TK.out).mono ?_)
  first | (rintro e w1 ⟨he, h1, g1⟩; have he' := he) | (rintro e w1 he h1 g1)
  subst he
  have H1 : Hid (RdAt g (some b) n c (p + 8) a 0 w1) := h1
  have G1 : Hid (w.grownBy w1 (some g)) := g1
  have V1 : Hid (∀ (j : Nat) v, bs[j]? = some v → w1.cell? (b2.add j) = some (.int .u8 v)) := HV.out w1 g1
  clear h1 g1 HV TK
  go_wp2
  go_loopw [3, 9] (fun s i wr => ∃ k : Nat, k ≤ 8 ∧ s = .int .i64 (wrap64 (leN (bs.take k) : Int)) ∧ i = .int .i64 k ∧ wr = w1) (fun _ i _ => 8 - (intOf i).toNat)
  case atStart => exact ⟨0, Nat.zero_le _, by rw [List.take_zero]; show Value.int .i64 0 = Value.int .i64 (wrap64 ((0 : Nat) : Int)); rw [show wrap64 ((0 : Nat) : Int) = 0 by unfold wrap64; omega], rfl, rfl⟩
  case round =>
    obtain ⟨k, hk, rfl, rfl, hw⟩ := hrel
    rw [hw]
    clear hw wr
    by_cases hlt : k < 8
    · obtain ⟨v, hvk⟩ : ∃ v, bs[k]? = some v := ⟨_, List.getElem?_eq_getElem (by have := HL.out; omega)⟩
      have f0 := V1.out k v hvk
      have hv8 := H8.out v (List.mem_of_getElem? hvk)
      have TE : Hid (leN (bs.take (k + 1)) = leN (bs.take k) + 256 ^ k * v) := leN_take hvk
      have TL : Hid (leN (bs.take k) < 256 ^ k) := by
        have q := leN_lt (a := bs.take k) (fun b hb => H8.out b (List.mem_of_mem_take hb))
        rw [List.length_take, Nat.min_eq_left (by have := HL.out; omega)] at q
        exact q
      generalize leN (bs.take k) = m at *
      have kl : (k : Int) < 8 := by omega
      have LT : Hid (k < 8) := hlt
      have ek : wrap64 ((k : Int) + 1) = (k : Int) + 1 := by unfold wrap64; omega
      have ek8 : wrap64 (8 * (k : Int)) = 8 * (k : Int) := by unfold wrap64; omega
      have ev : wrap64 (v : Int) = (v : Int) := by unfold wrap64; omega
      clear hk hlt hvk
      have e7 : ((v : Int) * 2 ^ (8 * k)) = ((256 ^ k * v : Nat) : Int) := by
        have e4 : (256 : Nat) ^ k = 2 ^ (8 * k) := by rw [Nat.pow_mul]
        rw [e4, Int.natCast_mul, Int.natCast_pow, Int.mul_comm]
        rfl
      have e8 : Hid (bits .or .i64 (wrap64 (m : Int)) (wrap64 ((v : Int) * 2 ^ (8 * k))) = wrap64 (leN (bs.take (k + 1)) : Int)) := by
        show _ = _
        rw [e7, or_i64 TL.out, TE.out]
      clear e7
      go_wp2
      refine ⟨⟨k + 1, by have := LT.out; omega, by rw [e8.out], by simp, trivial⟩, ?_⟩
      show 8 - ((k : Int) + 1).toNat < 8 - ((k : Int)).toNat
      have := LT.out
      omega
    · have kl : ¬ (k : Int) < 8 := by omega
      have ek : k = 8 := by omega
      subst ek
      rw [List.take_of_length_le (by rw [HL.out]; exact Nat.le_refl _)]
      clear hlt hk
      go_wp2
      go_ret
      exact ⟨rfl, H1.out, G1.out⟩
end Go.Proofs.YtdcjngakmkgbmaaGreat
namespace Go.Proofs.YtdcjngakmkgbmaaGreat
set_option linter.unusedVariables false
open Go.RowKit
set_option maxRecDepth 20000 in
set_option maxHeartbeats 4000000 in
theorem flagX_no (g : Nat) (x : Option Addr) (n c p : Nat) (a y : Int) (w : World) (h : RdAt g x n c p a y w) (hp : p ≤ n) (hn : n ≤ 4194304) (hk : y ≠ 0 ∨ n = p) :
    Calls Tryz.prog 102 #[.pointer (some ⟨g, 0, none⟩)] w fun e w' => e = .returned (.bool false) ∧ RdAt g x n c p (if y = 0 then (n : Int) else a) (if y = 0 then 2 else y) w' ∧ w.grownBy w' (some g) := by
  have TK : Hid (Calls Tryz.prog 101 #[.pointer (some ⟨g, 0, none⟩)] w fun e w' => e = .returned (.int .u8 0) ∧ RdAt g x n c p (if y = 0 then (n : Int) else a) (if y = 0 then 2 else y) w' ∧ w.grownBy w' (some g)) := rawX_no g x n c p a y w h hp hn hk
  obtain ⟨c0, c1, c2, c3⟩ := h.cs
  generalize (if y = 0 then (n : Int) else a) = A at *
  generalize (if y = 0 then (2 : Int) else y) = Y at *
  clear h hk hn hp
  go_enter Tryz.func102, Tryz.ntmps102
  go_upto_region 2 with fail
  go_wp2_with (go_at_call 101; refine (TK.out).mono ?_)
  first | (rintro e w1 ⟨he, h1, g1⟩; have he' := he) | (rintro e w1 he h1 g1)
  subst he
  have H1 : Hid (RdAt g x n c p A Y w1) := h1
  have G1 : Hid (w.grownBy w1 (some g)) := g1
  clear h1 g1
  go_wp2
  go_ret
  exact ⟨rfl, H1.out, G1.out⟩
set_option maxRecDepth 20000 in
set_option maxHeartbeats 4000000 in
theorem flagX_ok (g : Nat) (b : Addr) (n c p v : Nat) (a : Int) (w : World) (h : RdAt g (some b) n c p a 0 w) (hk : p < n) (hn : n ≤ 4194304) (hc : n < c) (hb : b.block ≠ g) (hv : w.cell? (b.add p) = some (.int .u8 v)) :
    Calls Tryz.prog 102 #[.pointer (some ⟨g, 0, none⟩)] w fun e w' => e = .returned (.bool (v == 1)) ∧ RdAt g (some b) n c (p + 1) (if 1 < v then (p : Int) else a) (if 1 < v then 203 else 0) w' ∧ w.grownBy w' (some g) := by
  have TK : Hid (Calls Tryz.prog 101 #[.pointer (some ⟨g, 0, none⟩)] w fun e w' => e = .returned (.int .u8 v) ∧ RdAt g (some b) n c (p + 1) a 0 w' ∧ w.grownBy w' (some g)) := rawX_ok g b n c p v a w h hk hn hc hb hv
  obtain ⟨c0, c1, c2, c3⟩ := h.cs
  have F1 : Hid (∀ V, RdAt g (some b) n c (p + 1) a 0 V → Calls Tryz.prog 34 #[.pointer (some ⟨g, 0, none⟩), .int .i64 p, .int .i64 203] V fun e w' => e = .returned (.tuple #[]) ∧ RdAt g (some b) n c (p + 1) p 203 w' ∧ V.grownBy w' (some g)) := fun V hV => by
    have q := failX g (some b) n c (p + 1) a 0 p 203 V hV
    rw [if_pos rfl, if_pos rfl] at q
    exact q
  clear h hk hn hc hb hv
  by_cases v1 : 1 < v
  · rw [if_pos v1, if_pos v1]
    have i1 : (1 : Int) < (v : Int) := by omega
    have i2 : ((v : Int) == 1) = false := by rw [beq_eq_false_iff_ne]; omega
    have i3 : (v == 1) = false := by rw [beq_eq_false_iff_ne]; omega
    rw [i3]
    have i4 : ¬ (v : Int) = 1 := by omega
    have i5 : ¬ v = 1 := by omega
    clear v1
    go_enter Tryz.func102, Tryz.ntmps102
    go_upto_region 2 with fail
    go_wp2_with (go_at_call 101; refine (TK.out).mono ?_)
    first | (rintro e w1 ⟨he, h1, g1⟩; have he' := he) | (rintro e w1 he h1 g1)
    subst he
    have H1 : Hid (RdAt g (some b) n c (p + 1) a 0 w1) := h1
    have G1 : Hid (w.grownBy w1 (some g)) := g1
    clear h1 g1 c0 c1 c2 c3
    go_upto_region 4 with fail
    go_wp2_with (go_at_call 34; refine (F1.out _ H1.out).mono ?_)
    first | (rintro e w2 ⟨he, h2, g2⟩; have he' := he) | (rintro e w2 he h2 g2)
    subst he
    have H2 : Hid (RdAt g (some b) n c (p + 1) p 203 w2) := h2
    have G2 : Hid (w.grownBy w2 (some g)) := gb_trans G1.out g2
    clear h2 g2
    go_wp2
    go_ret
    exact ⟨rfl, H2.out, G2.out⟩
  · rw [if_neg v1, if_neg v1]
    have i1 : ¬ (1 : Int) < (v : Int) := by omega
    have i3 : (v == 1) = ((v : Int) == 1) := by
      by_cases q : v = 1
      · subst q; rfl
      · rw [beq_eq_false_iff_ne.2 q, beq_eq_false_iff_ne.2 (by omega)]
    rw [i3]
    clear v1 i3 F1
    go_enter Tryz.func102, Tryz.ntmps102
    go_upto_region 2 with fail
    go_wp2_with (go_at_call 101; refine (TK.out).mono ?_)
    first | (rintro e w1 ⟨he, h1, g1⟩; have he' := he) | (rintro e w1 he h1 g1)
    subst he
    have H1 : Hid (RdAt g (some b) n c (p + 1) a 0 w1) := h1
    have G1 : Hid (w.grownBy w1 (some g)) := g1
    clear h1 g1 c0 c1 c2 c3
    go_wp2
    go_ret
    exact ⟨rfl, H1.out, G1.out⟩
end Go.Proofs.YtdcjngakmkgbmaaGreat
namespace Go.Proofs.YtdcjngakmkgbmaaGreat
set_option linter.unusedVariables false
open Go.RowKit
set_option maxRecDepth 20000 in
set_option maxHeartbeats 4000000 in
theorem countX_no (g : Nat) (x : Option Addr) (n c p : Nat) (a y : Int) (w : World) (h : RdAt g x n c p a y w) (hp : p ≤ n) (hn : n ≤ 4194304) (hk : y ≠ 0 ∨ n < p + 8) :
    Calls Tryz.prog 99 #[.pointer (some ⟨g, 0, none⟩)] w fun e w' => e = .returned (.int .i64 0) ∧ RdAt g x n c p (if y = 0 then (n : Int) else a) (if y = 0 then 2 else y) w' ∧ w.grownBy w' (some g) := by
  have TK : Hid (Calls Tryz.prog 103 #[.pointer (some ⟨g, 0, none⟩)] w fun e w' => e = .returned (.int .i64 0) ∧ RdAt g x n c p (if y = 0 then (n : Int) else a) (if y = 0 then 2 else y) w' ∧ w.grownBy w' (some g)) := numberX_no g x n c p a y w h hp hn hk
  obtain ⟨c0, c1, c2, c3⟩ := h.cs
  obtain ⟨N1, e1, l1⟩ : ∃ N1 : Int, wrap64 ((n : Int) - p) = N1 ∧ ¬ N1 < (0 : Int) := ⟨_, rfl, by unfold wrap64; omega⟩
  generalize (if y = 0 then (n : Int) else a) = A at *
  generalize (if y = 0 then (2 : Int) else y) = Y at *
  clear h hk hn hp
  go_enter Tryz.func99, Tryz.ntmps99
  go_upto_region 2 with fail
  go_wp2_with (go_at_call 103; refine (TK.out).mono ?_)
  first | (rintro e w1 ⟨he, h1, g1⟩; have he' := he) | (rintro e w1 he h1 g1)
  subst he
  have H1 : Hid (RdAt g x n c p A Y w1) := h1
  have G1 : Hid (w.grownBy w1 (some g)) := g1
  clear h1 g1 c0 c1 c2 c3
  obtain ⟨c0, c1, c2, c3⟩ := H1.out.cs
  go_upto_region 5 with fail
  go_quiet (fail)
  go_wp2
  go_ret
  exact ⟨rfl, H1.out.drewN _, gb_drewN G1.out _⟩
set_option maxRecDepth 20000 in
set_option maxHeartbeats 4000000 in
theorem countX_ok (g : Nat) (b : Addr) (n c p : Nat) (a : Int) (bs : List Nat) (w : World) (h : RdAt g (some b) n c p a 0 w) (hk : p + 8 ≤ n) (hn : n ≤ 4194304) (hc : n < c) (hb : b.block ≠ g) (hl : bs.length = 8) (h8 : ∀ v ∈ bs, v < 256) (hv : ∀ (j : Nat) v, bs[j]? = some v → w.cell? ((b.add p).add j) = some (.int .u8 v)) :
    Calls Tryz.prog 99 #[.pointer (some ⟨g, 0, none⟩)] w fun e w' => e = .returned (.int .i64 (wrap64 (leN bs : Int))) ∧ RdAt g (some b) n c (p + 8) (if wrap64 (leN bs : Int) < 0 then (p : Int) else if (n : Int) - (p + 8) < wrap64 (leN bs : Int) then (n : Int) else a) (if wrap64 (leN bs : Int) < 0 then 4 else if (n : Int) - (p + 8) < wrap64 (leN bs : Int) then 2 else 0) w' ∧ w.grownBy w' (some g) := by
  have TK : Hid (Calls Tryz.prog 103 #[.pointer (some ⟨g, 0, none⟩)] w fun e w' => e = .returned (.int .i64 (wrap64 (leN bs : Int))) ∧ RdAt g (some b) n c (p + 8) a 0 w' ∧ w.grownBy w' (some g)) := numberX_ok g b n c p a bs w h hk hn hc hb hl h8 hv
  obtain ⟨c0, c1, c2, c3⟩ := h.cs
  have FX : Hid (∀ V (a' y' : Int), RdAt g (some b) n c (p + 8) a 0 V → Calls Tryz.prog 34 #[.pointer (some ⟨g, 0, none⟩), .int .i64 a', .int .i64 y'] V fun e w' => e = .returned (.tuple #[]) ∧ RdAt g (some b) n c (p + 8) a' y' w' ∧ V.grownBy w' (some g)) := fun V a' y' hV => by
    have q := failX g (some b) n c (p + 8) a 0 a' y' V hV
    rw [if_pos rfl, if_pos rfl] at q
    exact q
  generalize wrap64 (leN bs : Int) = N at *
  obtain ⟨p8, e8⟩ : ∃ p8, p8 = p + 8 := ⟨_, rfl⟩
  obtain ⟨N1, e1, l1⟩ : ∃ N1 : Int, wrap64 ((n : Int) - (p8 : Int)) = N1 ∧ N1 = (n : Int) - (p + 8) := ⟨_, rfl, by unfold wrap64; omega⟩
  rw [← e8, ← l1]
  rw [← e8] at TK FX
  clear h hk hn hc hb hv hl h8 l1 e8
  by_cases q1 : N < 0
  · rw [if_pos q1, if_pos q1]
    go_enter Tryz.func99, Tryz.ntmps99
    go_upto_region 2 with fail
    go_wp2_with (go_at_call 103; refine (TK.out).mono ?_)
    first | (rintro e w1 ⟨he, h1, g1⟩; have he' := he) | (rintro e w1 he h1 g1)
    subst he
    have H1 : Hid (RdAt g (some b) n c p8 a 0 w1) := h1
    have G1 : Hid (w.grownBy w1 (some g)) := g1
    clear h1 g1 c0 c1 c2 c3
    go_upto_region 4 with fail
    go_wp2_with (go_at_call 34; refine (FX.out _ p 4 H1.out).mono ?_)
    first | (rintro e w2 ⟨he, h2, g2⟩; have he' := he) | (rintro e w2 he h2 g2)
    subst he
    have H2 : Hid (RdAt g (some b) n c p8 p 4 w2) := h2
    have G2 : Hid (w.grownBy w2 (some g)) := gb_trans G1.out g2
    clear h2 g2
    go_wp2
    go_ret
    exact ⟨rfl, H2.out, G2.out⟩
  · rw [if_neg q1, if_neg q1]
    by_cases q2 : N1 < N
    · rw [if_pos q2, if_pos q2]
      go_enter Tryz.func99, Tryz.ntmps99
      go_upto_region 2 with fail
      go_wp2_with (go_at_call 103; refine (TK.out).mono ?_)
      first | (rintro e w1 ⟨he, h1, g1⟩; have he' := he) | (rintro e w1 he h1 g1)
      subst he
      have H1 : Hid (RdAt g (some b) n c p8 a 0 w1) := h1
      have G1 : Hid (w.grownBy w1 (some g)) := g1
      clear h1 g1 c0 c1 c2 c3
      obtain ⟨c0, c1, c2, c3⟩ := H1.out.cs
      go_upto_region 5 with fail
      go_quiet (fail)
      obtain ⟨W, eW⟩ : ∃ W, W = w1.drewN nq := ⟨_, rfl⟩
      rw [← eW]
      have HW : Hid (RdAt g (some b) n c p8 a 0 W) := by rw [eW]; exact H1.out.drewN _
      have GW : Hid (w.grownBy W (some g)) := by rw [eW]; exact gb_drewN G1.out _
      clear eW c0 c1 c2 c3
      obtain ⟨c0, c1, c2, c3⟩ := HW.out.cs
      go_upto_region 6 with fail
      go_wp2_with (go_at_call 34; refine (FX.out _ n 2 HW.out).mono ?_)
      first | (rintro e w2 ⟨he, h2, g2⟩; have he' := he) | (rintro e w2 he h2 g2)
      subst he
      have H2 : Hid (RdAt g (some b) n c p8 n 2 w2) := h2
      have G2 : Hid (w.grownBy w2 (some g)) := gb_trans GW.out g2
      clear h2 g2
      go_wp2
      go_ret
      exact ⟨rfl, H2.out, G2.out⟩
    · rw [if_neg q2, if_neg q2]
      go_enter Tryz.func99, Tryz.ntmps99
      go_upto_region 2 with fail
      go_wp2_with (go_at_call 103; refine (TK.out).mono ?_)
      first | (rintro e w1 ⟨he, h1, g1⟩; have he' := he) | (rintro e w1 he h1 g1)
      subst he
      have H1 : Hid (RdAt g (some b) n c p8 a 0 w1) := h1
      have G1 : Hid (w.grownBy w1 (some g)) := g1
      clear h1 g1 c0 c1 c2 c3
      obtain ⟨c0, c1, c2, c3⟩ := H1.out.cs
      go_upto_region 5 with fail
      go_quiet (fail)
      go_wp2
      go_ret
      exact ⟨rfl, H1.out.drewN _, gb_drewN G1.out _⟩
end Go.Proofs.YtdcjngakmkgbmaaGreat
namespace Go.Proofs.YtdcjngakmkgbmaaGreat
set_option linter.unusedVariables false
open Go.RowKit
set_option maxRecDepth 20000 in
set_option maxHeartbeats 4000000 in
/-- A count that fails leaves no text. -/
theorem textX_of (g : Nat) (x : Option Addr) (n c p p' : Nat) (N A Y : Int) (w : World) (hp : p' ≤ n) (hn : n ≤ 4194304) (hy : Y ≠ 0)
    (hc : Calls Tryz.prog 99 #[.pointer (some ⟨g, 0, none⟩)] w fun e w' => e = .returned (.int .i64 N) ∧ RdAt g x n c p' A Y w' ∧ w.grownBy w' (some g)) :
    Calls Tryz.prog 67 #[.pointer (some ⟨g, 0, none⟩)] w fun e w' => e = .returned (.string ByteArray.empty) ∧ RdAt g x n c p' A Y w' ∧ w.grownBy w' (some g) := by
  have TK : Hid (Calls Tryz.prog 99 #[.pointer (some ⟨g, 0, none⟩)] w fun e w' => e = .returned (.int .i64 N) ∧ RdAt g x n c p' A Y w' ∧ w.grownBy w' (some g)) := hc
  have TX : Hid (∀ V, RdAt g x n c p' A Y V → Calls Tryz.prog 100 #[.pointer (some ⟨g, 0, none⟩), .int .i64 N] V fun e w' => e = .returned (.slice none 0 0) ∧ RdAt g x n c p' A Y w' ∧ V.grownBy w' (some g)) := fun V hV => by
    have q := takeX_no g x n c p' N A Y V hV hp hn (Or.inl hy)
    rw [if_neg hy, if_neg hy] at q
    exact q
  clear hc hp hn hy
  go_enter Tryz.func67, Tryz.ntmps67
  go_wp2_with (go_at_call 99; refine (TK.out).mono ?_)
  first | (rintro e w1 ⟨he, h1, g1⟩; have he' := he) | (rintro e w1 he h1 g1)
  subst he
  have H1 : Hid (RdAt g x n c p' A Y w1) := h1
  have G1 : Hid (w.grownBy w1 (some g)) := g1
  clear h1 g1
  go_wp2_with (go_at_call 100; refine (TX.out _ H1.out).mono ?_)
  first | (rintro e w2 ⟨he, h2, g2⟩; have he' := he) | (rintro e w2 he h2 g2)
  subst he
  have H2 : Hid (RdAt g x n c p' A Y w2) := h2
  have G2 : Hid (w.grownBy w2 (some g)) := gb_trans G1.out g2
  clear h2 g2
  have cv : (convert 27 9 (.slice none 0 0)).run Tryz.prog w2 = .ok (.string ByteArray.empty) w2 := by
    exact run_convert_bytes_nil (P := Tryz.prog) (w := w2) 27 5 (by kernel_rfl) (by kernel_rfl) 0 0 9 (by kernel_rfl)
  go_wp2
  go_ret
  exact ⟨rfl, H2.out, G2.out⟩
set_option maxRecDepth 20000 in
set_option maxHeartbeats 4000000 in
/-- A count that holds is followed by its text. -/
theorem textX_ok (g kb o : Nat) (n c p k : Nat) (a : Int) (ts : List Nat) (w : World) (hk : p + k ≤ n) (hn : n ≤ 4194304) (hcc : n < c) (hb : kb ≠ g) (hl : ts.length = k) (hv : ∀ (j : Nat) v, ts[j]? = some v → w.cell? ⟨kb, o + p + j, none⟩ = some (.int .u8 v))
    (hc : Calls Tryz.prog 99 #[.pointer (some ⟨g, 0, none⟩)] w fun e w' => e = .returned (.int .i64 k) ∧ RdAt g (some ⟨kb, o, none⟩) n c p a 0 w' ∧ w.grownBy w' (some g)) :
    Calls Tryz.prog 67 #[.pointer (some ⟨g, 0, none⟩)] w fun e w' => e = .returned (.string (strOfNums (ts.map Int.ofNat))) ∧ RdAt g (some ⟨kb, o, none⟩) n c (p + k) a 0 w' ∧ w.grownBy w' (some g) := by
  have TK : Hid (Calls Tryz.prog 99 #[.pointer (some ⟨g, 0, none⟩)] w fun e w' => e = .returned (.int .i64 k) ∧ RdAt g (some ⟨kb, o, none⟩) n c p a 0 w' ∧ w.grownBy w' (some g)) := hc
  have TX : Hid (∀ V, RdAt g (some ⟨kb, o, none⟩) n c p a 0 V → Calls Tryz.prog 100 #[.pointer (some ⟨g, 0, none⟩), .int .i64 k] V fun e w' => e = .returned (.slice (some ⟨kb, o + p, none⟩) k (c - p)) ∧ RdAt g (some ⟨kb, o, none⟩) n c (p + k) a 0 w' ∧ V.grownBy w' (some g)) := fun V hV => by
    have q := takeX_ok g ⟨kb, o, none⟩ n c p k a V hV hk hn hcc
    have e : (⟨kb, o, none⟩ : Addr).add p = ⟨kb, o + p, none⟩ := by unfold Addr.add; split <;> simp_all
    rw [e] at q
    exact q
  have CV : Hid (∀ V, w.grownBy V (some g) → (convert 27 9 (.slice (some ⟨kb, o + p, none⟩) k (c - p))).run Tryz.prog V = .ok (.string (strOfNums (ts.map Int.ofNat))) V) := fun V hV =>
    run_convert_bytes_arg (P := Tryz.prog) V 27 5 (by kernel_rfl) (by kernel_rfl) kb (o + p) k (c - p) (ts.map Int.ofNat) (by rw [List.length_map]; omega) (fun i hi => by
      obtain ⟨v, hvi⟩ : ∃ v, ts[i]? = some v := ⟨_, List.getElem?_eq_getElem (by omega)⟩
      have q := hV.cell (hv i v hvi) (by intro q; cases q; exact hb rfl)
      rw [q]
      simp [List.getD, List.getElem?_map, hvi]) 9 (by kernel_rfl)
  generalize strOfNums (ts.map Int.ofNat) = s at *
  clear hc hk hn hcc hb hl hv
  obtain ⟨o2, eo⟩ : ∃ o2, o2 = o + p := ⟨_, rfl⟩
  obtain ⟨c2, ec⟩ : ∃ c2, c2 = c - p := ⟨_, rfl⟩
  obtain ⟨p2, ep⟩ : ∃ p2, p2 = p + k := ⟨_, rfl⟩
  rw [← eo, ← ec] at TX CV
  rw [← ep] at TX
  rw [← ep]
  clear eo ec ep
  go_enter Tryz.func67, Tryz.ntmps67
  go_wp2_with (go_at_call 99; refine (TK.out).mono ?_)
  first | (rintro e w1 ⟨he, h1, g1⟩; have he' := he) | (rintro e w1 he h1 g1)
  subst he
  have H1 : Hid (RdAt g (some ⟨kb, o, none⟩) n c p a 0 w1) := h1
  have G1 : Hid (w.grownBy w1 (some g)) := g1
  clear h1 g1
  go_wp2_with (go_at_call 100; refine (TX.out _ H1.out).mono ?_)
  first | (rintro e w2 ⟨he, h2, g2⟩; have he' := he) | (rintro e w2 he h2 g2)
  subst he
  have H2 : Hid (RdAt g (some ⟨kb, o, none⟩) n c p2 a 0 w2) := h2
  have G2 : Hid (w.grownBy w2 (some g)) := gb_trans G1.out g2
  clear h2 g2
  have cv := CV.out w2 G2.out
  go_wp2
  go_ret
  exact ⟨rfl, H2.out, G2.out⟩
end Go.Proofs.YtdcjngakmkgbmaaGreat
namespace Go.Proofs.YtdcjngakmkgbmaaGreat
set_option linter.unusedVariables false
open Go.RowKit
/-- Where a reader stands: its place, its fault's place and number. -/
structure RS where
  p : Nat
  a : Int
  y : Int
/-- Behind something that is not all there. -/
def RS.no (s : RS) (n : Nat) : RS := ⟨s.p, if s.y = 0 then (n : Int) else s.a, if s.y = 0 then 2 else s.y⟩
theorem RS.no_y (s : RS) (n : Nat) : (s.no n).y ≠ 0 := by
  unfold RS.no
  by_cases q : s.y = 0 <;> simp [q]
def rdB (bs : List Nat) (s : RS) : Nat × RS := if s.y = 0 ∧ s.p < bs.length then (bs.getD s.p 0, ⟨s.p + 1, s.a, 0⟩) else (0, s.no bs.length)
def rdN (bs : List Nat) (s : RS) : Int × RS := if s.y = 0 ∧ s.p + 8 ≤ bs.length then (wrap64 (leN ((bs.drop s.p).take 8) : Int), ⟨s.p + 8, s.a, 0⟩) else (0, s.no bs.length)
def rdF (bs : List Nat) (s : RS) : Bool × RS := ((rdB bs s).1 == 1, if 1 < (rdB bs s).1 then ⟨s.p + 1, s.p, 203⟩ else (rdB bs s).2)
def rdC (bs : List Nat) (s : RS) : Int × RS := ((rdN bs s).1, if (rdN bs s).2.y = 0 then (if (rdN bs s).1 < 0 then ⟨s.p + 8, s.p, 4⟩ else if (bs.length : Int) - (s.p + 8) < (rdN bs s).1 then ⟨s.p + 8, bs.length, 2⟩ else (rdN bs s).2) else (rdN bs s).2)
def rdT (bs : List Nat) (s : RS) : ByteArray × RS := if (rdC bs s).2.y = 0 then (strOfNums (((bs.drop (rdC bs s).2.p).take (rdC bs s).1.toNat).map Int.ofNat), ⟨(rdC bs s).2.p + (rdC bs s).1.toNat, (rdC bs s).2.a, 0⟩) else (ByteArray.empty, (rdC bs s).2)
/-- Bytes lie in a block. -/
def ByAt (kb o : Nat) (bs : List Nat) (w : World) : Prop := ∀ (j : Nat) v, bs[j]? = some v → w.cell? ⟨kb, o + j, none⟩ = some (.int .u8 v)
/-- A reader over bytes. -/
structure Rd (g kb o c : Nat) (bs : List Nat) (s : RS) (w : World) : Prop where
  at_ : RdAt g (some ⟨kb, o, none⟩) bs.length c s.p s.a s.y w
  by_ : ByAt kb o bs w
  le : s.p ≤ bs.length
  n4 : bs.length ≤ 4194304
  nc : bs.length < c
  ne : kb ≠ g
  kl : kb < w.heap.size
  b8 : ∀ v ∈ bs, v < 256
theorem Rd.to {g kb o c : Nat} {bs : List Nat} {s s' : RS} {w w' : World} (h : Rd g kb o c bs s w) (hr : RdAt g (some ⟨kb, o, none⟩) bs.length c s'.p s'.a s'.y w') (hg : w.grownBy w' (some g)) (hp : s'.p ≤ bs.length) : Rd g kb o c bs s' w' :=
  ⟨hr, fun j v hj => hg.cell (h.by_ j v hj) (by intro q; cases q; exact h.ne rfl), hp, h.n4, h.nc, h.ne, Nat.lt_of_lt_of_le h.kl hg.size, h.b8⟩
theorem Rd.other {g kb o c : Nat} {bs : List Nat} {s : RS} {w w' : World} (h : Rd g kb o c bs s w) (hg : w.grownBy w' none) (hlt : g < w.heap.size) : Rd g kb o c bs s w' :=
  ⟨by have := h.at_; unfold RdAt at *; rw [hg.block g hlt (by simp)]; exact this, fun j v hj => hg.cell (h.by_ j v hj) (by simp), h.le, h.n4, h.nc, h.ne, Nat.lt_of_lt_of_le h.kl hg.size, h.b8⟩
/-- What a method of a reader does. -/
def RdM (F g kb o c : Nat) (bs : List Nat) (v : RS → Value) (nx : RS → RS) : Prop :=
  ∀ (s : RS) (w : World), Rd g kb o c bs s w → Calls Tryz.prog F #[.pointer (some ⟨g, 0, none⟩)] w fun e w' => e = .returned (v s) ∧ Rd g kb o c bs (nx s) w' ∧ w.grownBy w' (some g)
theorem add_kb (kb o p : Nat) : (⟨kb, o, none⟩ : Addr).add p = ⟨kb, o + p, none⟩ := by unfold Addr.add; split <;> simp_all
theorem rawM (g kb o c : Nat) (bs : List Nat) : RdM 101 g kb o c bs (fun s => .int .u8 (rdB bs s).1) (fun s => (rdB bs s).2) := by
  intro s w h
  show Calls _ _ _ _ fun e w' => e = .returned (.int .u8 (rdB bs s).1) ∧ Rd g kb o c bs (rdB bs s).2 w' ∧ _
  unfold rdB
  by_cases q : s.y = 0 ∧ s.p < bs.length
  · rw [if_pos q]
    have hr := h.at_
    rw [q.1] at hr
    have e : bs[s.p]? = some (bs.getD s.p 0) := by rw [List.getD_eq_getElem?_getD, List.getElem?_eq_getElem q.2]; rfl
    refine (rawX_ok g ⟨kb, o, none⟩ bs.length c s.p (bs.getD s.p 0) s.a w hr q.2 h.n4 h.nc h.ne (by rw [add_kb]; exact h.by_ _ _ e)).mono ?_
    rintro e w1 ⟨he, h1, g1⟩
    exact ⟨he, h.to (s' := ⟨s.p + 1, s.a, 0⟩) h1 g1 (show s.p + 1 ≤ _ by omega), g1⟩
  · rw [if_neg q]
    refine (rawX_no g (some ⟨kb, o, none⟩) bs.length c s.p s.a s.y w h.at_ h.le h.n4 (by have := h.le; omega)).mono ?_
    rintro e w1 ⟨he, h1, g1⟩
    exact ⟨he, h.to (s' := s.no bs.length) h1 g1 h.le, g1⟩
theorem drop_get (bs : List Nat) (p k : Nat) {j v : Nat} (h : ((bs.drop p).take k)[j]? = some v) : bs[p + j]? = some v := by
  rw [List.getElem?_take] at h
  split at h
  · rw [List.getElem?_drop] at h; exact h
  · cases h
theorem drop_len (bs : List Nat) (p k : Nat) (h : p + k ≤ bs.length) : ((bs.drop p).take k).length = k := by rw [List.length_take, List.length_drop]; omega
theorem drop_mem {bs : List Nat} {p k : Nat} (h : ∀ v ∈ bs, v < 256) : ∀ v ∈ (bs.drop p).take k, v < 256 := fun v hv => h v (List.mem_of_mem_drop (List.mem_of_mem_take hv))
theorem numM (g kb o c : Nat) (bs : List Nat) : RdM 103 g kb o c bs (fun s => .int .i64 (rdN bs s).1) (fun s => (rdN bs s).2) := by
  intro s w h
  show Calls _ _ _ _ fun e w' => e = .returned (.int .i64 (rdN bs s).1) ∧ Rd g kb o c bs (rdN bs s).2 w' ∧ _
  unfold rdN
  by_cases q : s.y = 0 ∧ s.p + 8 ≤ bs.length
  · rw [if_pos q]
    have hr := h.at_
    rw [q.1] at hr
    refine (numberX_ok g ⟨kb, o, none⟩ bs.length c s.p s.a ((bs.drop s.p).take 8) w hr q.2 h.n4 h.nc h.ne (drop_len _ _ _ q.2) (drop_mem h.b8) (fun j v hj => by rw [add_kb, add_kb, Nat.add_assoc]; exact h.by_ _ _ (drop_get _ _ _ hj))).mono ?_
    rintro e w1 ⟨he, h1, g1⟩
    exact ⟨he, h.to (s' := ⟨s.p + 8, s.a, 0⟩) h1 g1 q.2, g1⟩
  · rw [if_neg q]
    refine (numberX_no g (some ⟨kb, o, none⟩) bs.length c s.p s.a s.y w h.at_ h.le h.n4 (by omega)).mono ?_
    rintro e w1 ⟨he, h1, g1⟩
    exact ⟨he, h.to (s' := s.no bs.length) h1 g1 h.le, g1⟩
theorem flgM (g kb o c : Nat) (bs : List Nat) : RdM 102 g kb o c bs (fun s => .bool (rdF bs s).1) (fun s => (rdF bs s).2) := by
  intro s w h
  show Calls _ _ _ _ fun e w' => e = .returned (.bool (rdF bs s).1) ∧ Rd g kb o c bs (rdF bs s).2 w' ∧ _
  unfold rdF rdB
  by_cases q : s.y = 0 ∧ s.p < bs.length
  · rw [if_pos q]
    have hr := h.at_
    rw [q.1] at hr
    have e : bs[s.p]? = some (bs.getD s.p 0) := by rw [List.getD_eq_getElem?_getD, List.getElem?_eq_getElem q.2]; rfl
    refine (flagX_ok g ⟨kb, o, none⟩ bs.length c s.p (bs.getD s.p 0) s.a w hr q.2 h.n4 h.nc h.ne (by rw [add_kb]; exact h.by_ _ _ e)).mono ?_
    rintro e w1 ⟨he, h1, g1⟩
    refine ⟨he, ?_, g1⟩
    show Rd g kb o c bs (if 1 < bs.getD s.p 0 then ⟨s.p + 1, s.p, 203⟩ else ⟨s.p + 1, s.a, 0⟩) w1
    by_cases r : 1 < bs.getD s.p 0
    · rw [if_pos r] at h1 ⊢
      rw [if_pos r] at h1
      exact h.to (s' := ⟨s.p + 1, s.p, 203⟩) h1 g1 (show s.p + 1 ≤ _ by omega)
    · rw [if_neg r] at h1 ⊢
      rw [if_neg r] at h1
      exact h.to (s' := ⟨s.p + 1, s.a, 0⟩) h1 g1 (show s.p + 1 ≤ _ by omega)
  · rw [if_neg q]
    refine (flagX_no g (some ⟨kb, o, none⟩) bs.length c s.p s.a s.y w h.at_ h.le h.n4 (by have := h.le; omega)).mono ?_
    rintro e w1 ⟨he, h1, g1⟩
    exact ⟨he, h.to (s' := s.no bs.length) h1 g1 h.le, g1⟩
theorem cntM (g kb o c : Nat) (bs : List Nat) : RdM 99 g kb o c bs (fun s => .int .i64 (rdC bs s).1) (fun s => (rdC bs s).2) := by
  intro s w h
  show Calls _ _ _ _ fun e w' => e = .returned (.int .i64 (rdC bs s).1) ∧ Rd g kb o c bs (rdC bs s).2 w' ∧ _
  unfold rdC rdN
  by_cases q : s.y = 0 ∧ s.p + 8 ≤ bs.length
  · rw [if_pos q]
    have hr := h.at_
    rw [q.1] at hr
    refine (countX_ok g ⟨kb, o, none⟩ bs.length c s.p s.a ((bs.drop s.p).take 8) w hr q.2 h.n4 h.nc h.ne (drop_len _ _ _ q.2) (drop_mem h.b8) (fun j v hj => by rw [add_kb, add_kb, Nat.add_assoc]; exact h.by_ _ _ (drop_get _ _ _ hj))).mono ?_
    rintro e w1 ⟨he, h1, g1⟩
    refine ⟨he, ?_, g1⟩
    rw [if_pos (show (⟨s.p + 8, s.a, 0⟩ : RS).y = 0 from rfl)]
    show Rd g kb o c bs (if wrap64 (leN ((bs.drop s.p).take 8) : Int) < 0 then ⟨s.p + 8, s.p, 4⟩ else if (bs.length : Int) - (s.p + 8) < wrap64 (leN ((bs.drop s.p).take 8) : Int) then ⟨s.p + 8, bs.length, 2⟩ else ⟨s.p + 8, s.a, 0⟩) w1
    generalize wrap64 (leN ((bs.drop s.p).take 8) : Int) = N at *
    by_cases r : N < 0
    · rw [if_pos r] at h1 ⊢
      rw [if_pos r] at h1
      exact h.to (s' := ⟨s.p + 8, s.p, 4⟩) h1 g1 q.2
    · rw [if_neg r] at h1 ⊢
      rw [if_neg r] at h1
      by_cases t : (bs.length : Int) - (s.p + 8) < N
      · rw [if_pos t] at h1 ⊢
        rw [if_pos t] at h1
        exact h.to (s' := ⟨s.p + 8, bs.length, 2⟩) h1 g1 q.2
      · rw [if_neg t] at h1 ⊢
        rw [if_neg t] at h1
        exact h.to (s' := ⟨s.p + 8, s.a, 0⟩) h1 g1 q.2
  · rw [if_neg q]
    refine (countX_no g (some ⟨kb, o, none⟩) bs.length c s.p s.a s.y w h.at_ h.le h.n4 (by omega)).mono ?_
    rintro e w1 ⟨he, h1, g1⟩
    refine ⟨he, ?_, g1⟩
    rw [if_neg (show ¬ (s.no bs.length).y = 0 from RS.no_y _ _)]
    exact h.to (s' := s.no bs.length) h1 g1 h.le
/-- What a count that holds says. -/
theorem rdC_ok {bs : List Nat} {s : RS} (h : (rdC bs s).2.y = 0) : 0 ≤ (rdC bs s).1 ∧ (rdC bs s).2.p + (rdC bs s).1.toNat ≤ bs.length := by
  unfold rdC at *
  generalize hN : rdN bs s = R at *
  obtain ⟨N, t⟩ := R
  dsimp only at *
  have e : t.y = 0 → t.p = s.p + 8 ∧ s.p + 8 ≤ bs.length := by
    intro ht
    unfold rdN at hN
    split at hN
    · rename_i q
      cases hN
      exact ⟨rfl, q.2⟩
    · cases hN
      exact absurd ht (RS.no_y _ _)
  by_cases q0 : t.y = 0
  · obtain ⟨e1, e2⟩ := e q0
    rw [if_pos q0] at h ⊢
    by_cases q1 : N < 0
    · rw [if_pos q1] at h; exact absurd h (show ¬ (4 : Int) = 0 by decide)
    · rw [if_neg q1] at h ⊢
      by_cases q2 : (bs.length : Int) - (s.p + 8) < N
      · rw [if_pos q2] at h; exact absurd h (show ¬ (2 : Int) = 0 by decide)
      · rw [if_neg q2]; omega
  · rw [if_neg q0] at h; exact absurd h q0
theorem rdN_le {bs : List Nat} {s : RS} (h : s.p ≤ bs.length) : (rdN bs s).2.p ≤ bs.length := by
  unfold rdN
  split
  · rename_i q; exact q.2
  · exact h
theorem rdC_le {bs : List Nat} {s : RS} (h : s.p ≤ bs.length) : (rdC bs s).2.p ≤ bs.length := by
  have k := rdN_le h
  unfold rdC
  unfold rdN at *
  by_cases q : s.y = 0 ∧ s.p + 8 ≤ bs.length
  · rw [if_pos q] at *
    rw [if_pos (show (⟨s.p + 8, s.a, 0⟩ : RS).y = 0 from rfl)]
    split
    · exact q.2
    · split
      · exact q.2
      · exact q.2
  · rw [if_neg q] at *
    rw [if_neg (show ¬ (s.no bs.length).y = 0 from RS.no_y _ _)]
    exact h
theorem txtM (g kb o c : Nat) (bs : List Nat) : RdM 67 g kb o c bs (fun s => .string (rdT bs s).1) (fun s => (rdT bs s).2) := by
  intro s w h
  show Calls _ _ _ _ fun e w' => e = .returned (.string (rdT bs s).1) ∧ Rd g kb o c bs (rdT bs s).2 w' ∧ _
  have hc : Calls Tryz.prog 99 #[.pointer (some ⟨g, 0, none⟩)] w fun e w' => e = .returned (.int .i64 (rdC bs s).1) ∧ Rd g kb o c bs (rdC bs s).2 w' ∧ w.grownBy w' (some g) := cntM g kb o c bs s w h
  have tp := rdC_le h.le
  unfold rdT
  by_cases q : (rdC bs s).2.y = 0
  · rw [if_pos q]
    obtain ⟨k0, k1⟩ := rdC_ok q
    generalize rdC bs s = R at *
    obtain ⟨N, t⟩ := R
    dsimp only at *
    obtain ⟨k, rfl⟩ : ∃ k : Nat, N = k := ⟨N.toNat, by omega⟩
    rw [Int.toNat_natCast] at *
    refine (textX_ok g kb o bs.length c t.p k t.a ((bs.drop t.p).take k) w k1 h.n4 h.nc h.ne (drop_len _ _ _ k1) (fun j v hj => by rw [Nat.add_assoc]; exact h.by_ _ _ (drop_get _ _ _ hj)) (hc.mono fun e w' ⟨he, h1, g1⟩ => ⟨he, by have := h1.at_; rw [q] at this; exact this, g1⟩)).mono ?_
    rintro e w1 ⟨he, h1, g1⟩
    exact ⟨he, h.to (s' := ⟨t.p + k, t.a, 0⟩) h1 g1 k1, g1⟩
  · rw [if_neg q]
    generalize rdC bs s = R at *
    obtain ⟨N, t⟩ := R
    dsimp only at *
    refine (textX_of g (some ⟨kb, o, none⟩) bs.length c s.p t.p N t.a t.y w tp h.n4 q (hc.mono fun e w' ⟨he, h1, g1⟩ => ⟨he, h1.at_, g1⟩)).mono ?_
    rintro e w1 ⟨he, h1, g1⟩
    exact ⟨he, h.to (s' := t) h1 g1 tp, g1⟩
end Go.Proofs.YtdcjngakmkgbmaaGreat
namespace Go.Proofs.YtdcjngakmkgbmaaGreat
set_option linter.unusedVariables false
open Go.RowKit
theorem ba_ext {a b : ByteArray} (h : a.toList = b.toList) : a = b := by
  cases a with
  | mk x =>
    cases b with
    | mk y =>
      rw [ByteArray.toList_eq, ByteArray.toList_eq] at h
      exact congrArg ByteArray.mk (Array.toList_inj.1 h)
theorem msr {k n : Nat} (h : k < n) : n - (intOf (.int .i64 ((k : Int) + 1))).toNat < n - (intOf (.int .i64 (k : Int))).toNat := by
  show n - ((k : Int) + 1).toNat < n - ((k : Int)).toNat
  omega
/-- Texts in a row. -/
def NmAt (w : World) (x : Option Addr) (l : List ByteArray) : Prop := (x = none → l = []) ∧ ∀ a, x = some a → ∀ i s, l[i]? = some s → w.cell? (a.add i) = some (.string s)
theorem NmAt.some {w : World} {x : Option Addr} {l : List ByteArray} (h : NmAt w x l) (hl : 0 < l.length) : ∃ a, x = .some a := by
  cases x with
  | none => rw [h.1 rfl] at hl; exact absurd hl (by decide)
  | some a => exact ⟨a, rfl⟩
theorem NmAt.cell {w : World} {a : Addr} {l : List ByteArray} (h : NmAt w (Option.some a) l) (k : Nat) (hk : k < l.length) : ∃ s, l[k]? = Option.some s ∧ w.cell? (a.add k) = Option.some (.string s) := ⟨l[k], List.getElem?_eq_getElem hk, h.2 a rfl k _ (List.getElem?_eq_getElem hk)⟩
theorem NmAt.below {w w' : World} {x : Option Addr} {l : List ByteArray} (h : NmAt w x l) (hb : Below w.heap.size w w') : NmAt w' x l := ⟨h.1, fun a e i s hs => by have c := h.2 a e i s hs; exact (hb.cell (block_lt_of_cell c)).trans c⟩
end Go.Proofs.YtdcjngakmkgbmaaGreat
namespace Go.Proofs.YtdcjngakmkgbmaaGreat
set_option linter.unusedVariables false
open Go.RowKit
/-- What an expression has besides its parts. -/
structure EH where
  op : Int
  pl : Int
  nm : ByteArray
  fd : ByteArray
  vk : Int
  vb : Int
  vs : ByteArray
  kd : Int
  ar : Int
  rf : Int
  fr : Int
  up : Int
/-- An expression: its head, the names of its parts, its parts. -/
inductive Ex where
  | mk (h : EH) (ns : List ByteArray) (l : List Ex)
/-- An expression as a value. -/
abbrev EV (h : EH) (k n : Value) : Value := .agg #[.int .i64 h.op, .int .i64 h.pl, .string h.nm, .string h.fd, .int .u8 h.vk, .int .u64 h.vb, .string h.vs, k, n, .int .u8 h.kd, .int .i64 h.ar, .int .i64 h.rf, .int .i64 h.fr, .int .i64 h.up]
/-- Its cells. -/
structure EcAt (w : World) (p : Addr) (h : EH) (k n : Value) : Prop where
  c0 : w.cell? p = some (.int .i64 h.op)
  c1 : w.cell? ⟨p.block, p.off + 1, none⟩ = some (.int .i64 h.pl)
  c2 : w.cell? ⟨p.block, p.off + 2, none⟩ = some (.string h.nm)
  c3 : w.cell? ⟨p.block, p.off + 3, none⟩ = some (.string h.fd)
  c4 : w.cell? ⟨p.block, p.off + 4, none⟩ = some (.int .u8 h.vk)
  c5 : w.cell? ⟨p.block, p.off + 5, none⟩ = some (.int .u64 h.vb)
  c6 : w.cell? ⟨p.block, p.off + 6, none⟩ = some (.string h.vs)
  c7 : w.cell? ⟨p.block, p.off + 7, none⟩ = some (k)
  c8 : w.cell? ⟨p.block, p.off + 8, none⟩ = some (n)
  c9 : w.cell? ⟨p.block, p.off + 9, none⟩ = some (.int .u8 h.kd)
  c10 : w.cell? ⟨p.block, p.off + 10, none⟩ = some (.int .i64 h.ar)
  c11 : w.cell? ⟨p.block, p.off + 11, none⟩ = some (.int .i64 h.rf)
  c12 : w.cell? ⟨p.block, p.off + 12, none⟩ = some (.int .i64 h.fr)
  c13 : w.cell? ⟨p.block, p.off + 13, none⟩ = some (.int .i64 h.up)
theorem EcAt.below {w w' : World} {p : Addr} {h : EH} {k n : Value} (a : EcAt w p h k n) (hb : Below w.heap.size w w') : EcAt w' p h k n := by
  have z := block_lt_of_cell a.c0
  exact ⟨(hb.cell (p := p) z).trans a.c0, (hb.cell (p := ⟨p.block, p.off + 1, none⟩) z).trans a.c1, (hb.cell (p := ⟨p.block, p.off + 2, none⟩) z).trans a.c2, (hb.cell (p := ⟨p.block, p.off + 3, none⟩) z).trans a.c3, (hb.cell (p := ⟨p.block, p.off + 4, none⟩) z).trans a.c4, (hb.cell (p := ⟨p.block, p.off + 5, none⟩) z).trans a.c5, (hb.cell (p := ⟨p.block, p.off + 6, none⟩) z).trans a.c6, (hb.cell (p := ⟨p.block, p.off + 7, none⟩) z).trans a.c7, (hb.cell (p := ⟨p.block, p.off + 8, none⟩) z).trans a.c8, (hb.cell (p := ⟨p.block, p.off + 9, none⟩) z).trans a.c9, (hb.cell (p := ⟨p.block, p.off + 10, none⟩) z).trans a.c10, (hb.cell (p := ⟨p.block, p.off + 11, none⟩) z).trans a.c11, (hb.cell (p := ⟨p.block, p.off + 12, none⟩) z).trans a.c12, (hb.cell (p := ⟨p.block, p.off + 13, none⟩) z).trans a.c13⟩
/-- Few enough for an int. -/
abbrev few (n : Nat) : Prop := n < 549755813888
/-- An expression at an address; so deep at most. -/
def ExAt : Nat → World → Addr → Ex → Prop
  | 0, _, _, _ => False
  | d + 1, w, p, .mk h ns l => ∃ x c y c', EcAt w p h (.slice x l.length c) (.slice y ns.length c') ∧ NmAt w y ns ∧ few ns.length ∧ few l.length ∧ (x = none → l = []) ∧ ∀ b, x = some b → ∀ i e, l[i]? = some e → ExAt d w (b.add (i * 14)) e
/-- Expressions in a row. -/
def KdAt (d : Nat) (w : World) (x : Option Addr) (l : List Ex) : Prop := few l.length ∧ (x = none → l = []) ∧ ∀ b, x = some b → ∀ i e, l[i]? = some e → ExAt d w (b.add (i * 14)) e
/-- An expression's value, as it is handed on. -/
def EvOk (d : Nat) (w : World) (v : Value) : Ex → Prop
  | .mk h ns l => ∃ x c y c', v = EV h (.slice x l.length c) (.slice y ns.length c') ∧ NmAt w y ns ∧ few ns.length ∧ KdAt d w x l
theorem ExAt.below : ∀ (d : Nat) {w w' : World} {p : Addr} {e : Ex}, ExAt d w p e → Below w.heap.size w w' → ExAt d w' p e
  | 0, _, _, _, _, h, _ => h.elim
  | d + 1, w, w', p, .mk h ns l, ⟨x, c, y, c', hc, hn, f1, f2, h0, hk⟩, hb => ⟨x, c, y, c', hc.below hb, hn.below hb, f1, f2, h0, fun b e i q hq => ExAt.below d (hk b e i q hq) hb⟩
theorem KdAt.below {d : Nat} {w w' : World} {x : Option Addr} {l : List Ex} (h : KdAt d w x l) (hb : Below w.heap.size w w') : KdAt d w' x l := ⟨h.1, h.2.1, fun b e i q hq => ExAt.below d (h.2.2 b e i q hq) hb⟩
theorem EvOk.below {d : Nat} {w w' : World} {v : Value} {e : Ex} (h : EvOk d w v e) (hb : Below w.heap.size w w') : EvOk d w' v e := by
  cases e with
  | mk hd ns l =>
    obtain ⟨x, c, y, c', e, hn, f, hk⟩ := h
    exact ⟨x, c, y, c', e, hn.below hb, f, hk.below hb⟩
/-- What an element of a row reads as. -/
theorem KdAt.el {d : Nat} {w : World} {b : Addr} {l : List Ex} (h : KdAt (d + 1) w (some b) l) (i : Nat) (hi : i < l.length) : ∃ hd ns l' x c y c', l[i]? = some (.mk hd ns l') ∧ EcAt w (b.add (i * 14)) hd (.slice x l'.length c) (.slice y ns.length c') ∧ EvOk d w (EV hd (.slice x l'.length c) (.slice y ns.length c')) (.mk hd ns l') := by
  have a := h.2.2 b rfl i l[i] (List.getElem?_eq_getElem hi)
  cases e : l[i] with
  | mk hd ns l' =>
    rw [e] at a
    obtain ⟨x, c, y, c', hc, hn, f1, f2, h0, hk⟩ := a
    exact ⟨hd, ns, l', x, c, y, c', by rw [List.getElem?_eq_getElem hi, e], hc, x, c, y, c', rfl, hn, f1, f2, h0, hk⟩
end Go.Proofs.YtdcjngakmkgbmaaGreat
namespace Go.Proofs.YtdcjngakmkgbmaaGreat
set_option linter.unusedVariables false
open Go.RowKit
end Go.Proofs.YtdcjngakmkgbmaaGreat
namespace Go.Proofs.YtdcjngakmkgbmaaGreat
set_option linter.unusedVariables false
open Go.RowKit
/-- The blocks that S names hold what they held. -/
def FrS (S : Nat → Prop) (w w' : World) : Prop := ∀ q : Addr, S q.block → w'.cell? q = w.cell? q
/-- Texts in a row whose cells lie in S. -/
def NmF (S : Nat → Prop) (w : World) (y : Option Addr) (ns : List ByteArray) : Prop := NmAt w y ns ∧ ∀ a, y = some a → ∀ (i : Nat) s, ns[i]? = some s → S a.block
/-- An expression at an address, all its cells in S. -/
def ExF (S : Nat → Prop) : Nat → World → Addr → Ex → Prop
  | 0, _, _, _ => False
  | d + 1, w, p, .mk h ns l => S p.block ∧ ∃ x c y c', EcAt w p h (.slice x l.length c) (.slice y ns.length c') ∧ NmF S w y ns ∧ few ns.length ∧ few l.length ∧ (x = none → l = []) ∧ ∀ b, x = some b → ∀ i e, l[i]? = some e → ExF S d w (b.add (i * 14)) e
def KdF (S : Nat → Prop) (d : Nat) (w : World) (x : Option Addr) (l : List Ex) : Prop := few l.length ∧ (x = none → l = []) ∧ ∀ b, x = some b → ∀ i e, l[i]? = some e → ExF S d w (b.add (i * 14)) e
def EvF (S : Nat → Prop) (d : Nat) (w : World) (v : Value) : Ex → Prop
  | .mk h ns l => ∃ x c y c', v = EV h (.slice x l.length c) (.slice y ns.length c') ∧ NmF S w y ns ∧ few ns.length ∧ KdF S d w x l
theorem add_block (a : Addr) (i : Nat) : (a.add i).block = a.block := by unfold Addr.add; split <;> rfl
theorem NmF.fr {S : Nat → Prop} {w w' : World} {y : Option Addr} {ns : List ByteArray} (h : NmF S w y ns) (f : FrS S w w') : NmF S w' y ns :=
  ⟨⟨h.1.1, fun a e i s hs => (f _ (by rw [add_block]; exact h.2 a e i s hs)).trans (h.1.2 a e i s hs)⟩, h.2⟩
theorem EcAt.fr {S : Nat → Prop} {w w' : World} {p : Addr} {h : EH} {k n : Value} (a : EcAt w p h k n) (f : FrS S w w') (hp : S p.block) : EcAt w' p h k n :=
  ⟨(f _ hp).trans a.c0, (f ⟨p.block, p.off + 1, none⟩ hp).trans a.c1, (f ⟨p.block, p.off + 2, none⟩ hp).trans a.c2, (f ⟨p.block, p.off + 3, none⟩ hp).trans a.c3, (f ⟨p.block, p.off + 4, none⟩ hp).trans a.c4, (f ⟨p.block, p.off + 5, none⟩ hp).trans a.c5, (f ⟨p.block, p.off + 6, none⟩ hp).trans a.c6, (f ⟨p.block, p.off + 7, none⟩ hp).trans a.c7, (f ⟨p.block, p.off + 8, none⟩ hp).trans a.c8, (f ⟨p.block, p.off + 9, none⟩ hp).trans a.c9, (f ⟨p.block, p.off + 10, none⟩ hp).trans a.c10, (f ⟨p.block, p.off + 11, none⟩ hp).trans a.c11, (f ⟨p.block, p.off + 12, none⟩ hp).trans a.c12, (f ⟨p.block, p.off + 13, none⟩ hp).trans a.c13⟩
theorem ExF.fr {S : Nat → Prop} : ∀ (d : Nat) {w w' : World} {p : Addr} {e : Ex}, ExF S d w p e → FrS S w w' → ExF S d w' p e
  | 0, _, _, _, _, h, _ => h.elim
  | d + 1, w, w', p, .mk h ns l, ⟨hp, x, c, y, c', hc, hn, f1, f2, h0, hk⟩, f => ⟨hp, x, c, y, c', hc.fr f hp, hn.fr f, f1, f2, h0, fun b e i q hq => ExF.fr d (hk b e i q hq) f⟩
theorem ExF.sub {S T : Nat → Prop} (hST : ∀ b, S b → T b) : ∀ (d : Nat) {w : World} {p : Addr} {e : Ex}, ExF S d w p e → ExF T d w p e
  | 0, _, _, _, h => h.elim
  | d + 1, w, p, .mk h ns l, ⟨hp, x, c, y, c', hc, hn, f1, f2, h0, hk⟩ => ⟨hST _ hp, x, c, y, c', hc, ⟨hn.1, fun a e i s q => hST _ (hn.2 a e i s q)⟩, f1, f2, h0, fun b e i q hq => ExF.sub hST d (hk b e i q hq)⟩
theorem ExF.at {S : Nat → Prop} : ∀ (d : Nat) {w : World} {p : Addr} {e : Ex}, ExF S d w p e → ExAt d w p e
  | 0, _, _, _, h => h.elim
  | d + 1, w, p, .mk h ns l, ⟨hp, x, c, y, c', hc, hn, f1, f2, h0, hk⟩ => ⟨x, c, y, c', hc, hn.1, f1, f2, h0, fun b e i q hq => ExF.at d (hk b e i q hq)⟩
theorem KdF.fr {S : Nat → Prop} {d : Nat} {w w' : World} {x : Option Addr} {l : List Ex} (h : KdF S d w x l) (f : FrS S w w') : KdF S d w' x l := ⟨h.1, h.2.1, fun b e i q hq => ExF.fr d (h.2.2 b e i q hq) f⟩
theorem KdF.sub {S T : Nat → Prop} (hST : ∀ b, S b → T b) {d : Nat} {w : World} {x : Option Addr} {l : List Ex} (h : KdF S d w x l) : KdF T d w x l := ⟨h.1, h.2.1, fun b e i q hq => ExF.sub hST d (h.2.2 b e i q hq)⟩
theorem KdF.at {S : Nat → Prop} {d : Nat} {w : World} {x : Option Addr} {l : List Ex} (h : KdF S d w x l) : KdAt d w x l := ⟨h.1, h.2.1, fun b e i q hq => ExF.at d (h.2.2 b e i q hq)⟩
theorem EvF.fr {S : Nat → Prop} {d : Nat} {w w' : World} {v : Value} {e : Ex} (h : EvF S d w v e) (f : FrS S w w') : EvF S d w' v e := by
  cases e with
  | mk hd ns l =>
    obtain ⟨x, c, y, c', e, hn, q, hk⟩ := h
    exact ⟨x, c, y, c', e, hn.fr f, q, hk.fr f⟩
theorem EvF.sub {S T : Nat → Prop} (hST : ∀ b, S b → T b) {d : Nat} {w : World} {v : Value} {e : Ex} (h : EvF S d w v e) : EvF T d w v e := by
  cases e with
  | mk hd ns l =>
    obtain ⟨x, c, y, c', e, hn, q, hk⟩ := h
    exact ⟨x, c, y, c', e, ⟨hn.1, fun a e i s q => hST _ (hn.2 a e i s q)⟩, q, hk.sub hST⟩
theorem EvF.at {S : Nat → Prop} {d : Nat} {w : World} {v : Value} {e : Ex} (h : EvF S d w v e) : EvOk d w v e := by
  cases e with
  | mk hd ns l =>
    obtain ⟨x, c, y, c', e, hn, q, hk⟩ := h
    exact ⟨x, c, y, c', e, hn.1, q, hk.at⟩
/-- The blocks made between two worlds. -/
def Fresh (a b : Nat) : Nat → Prop := fun g => a ≤ g ∧ g < b
end Go.Proofs.YtdcjngakmkgbmaaGreat
namespace Go.Proofs.YtdcjngakmkgbmaaGreat
set_option linter.unusedVariables false
open Go.RowKit
theorem ad_off (a : Addr) (i j : Nat) : (a.add i).add j = a.add (i + j) := by
  unfold Addr.add
  by_cases hi : i = 0 <;> by_cases hj : j = 0 <;> simp [hi, hj, Nat.add_assoc]
theorem ad_pos (a : Addr) (j : Nat) : a.add (j + 1) = ⟨a.block, a.off + (j + 1), none⟩ := by
  unfold Addr.add; rw [if_neg (by omega)]
theorem ad_zero (a : Addr) : a.add 0 = a := by simp [Addr.add]
/-- Cells one behind another from an address on. -/
def CsAt (w : World) (p : Addr) (vs : List Value) : Prop := ∀ (j : Nat) v, vs[j]? = some v → w.cell? (p.add j) = some v
theorem CsAt.fr {S : Nat → Prop} {w w' : World} {p : Addr} {vs : List Value} (h : CsAt w p vs) (f : FrS S w w') (hp : S p.block) : CsAt w' p vs :=
  fun j v hv => (f _ (by rw [add_block]; exact hp)).trans (h j v hv)
theorem CsAt.c0 {w : World} {p : Addr} {v : Value} {vs : List Value} (h : CsAt w p (v :: vs)) : w.cell? p = some v := by have := h 0 v rfl; rwa [ad_zero] at this
theorem CsAt.cp {w : World} {p : Addr} {vs : List Value} (h : CsAt w p vs) (j : Nat) (v : Value) (hv : vs[j + 1]? = some v) : w.cell? ⟨p.block, p.off + (j + 1), none⟩ = some v := by have := h (j + 1) v hv; rwa [ad_pos] at this
/-- Records in a row, each of n cells; P tells the cells. -/
def RwF {α : Type} (n : Nat) (P : α → List Value → Prop) (S : Nat → Prop) (w : World) (x : Option Addr) (l : List α) : Prop :=
  few l.length ∧ (x = none → l = []) ∧ ∀ a, x = some a → ∀ (i : Nat) e, l[i]? = some e → S a.block ∧ ∃ vs, P e vs ∧ CsAt w (a.add (i * n)) vs
section
variable {α : Type} {n : Nat} {P : α → List Value → Prop} {S : Nat → Prop} {w w' : World} {x : Option Addr} {l : List α}
theorem RwF.fr (h : RwF n P S w x l) (f : FrS S w w') : RwF n P S w' x l :=
  ⟨h.1, h.2.1, fun a e i t ht => by obtain ⟨h1, vs, h2, h3⟩ := h.2.2 a e i t ht; exact ⟨h1, vs, h2, h3.fr f (by rw [add_block]; exact h1)⟩⟩
theorem RwF.sub {T : Nat → Prop} (hST : ∀ b, S b → T b) (h : RwF n P S w x l) : RwF n P T w x l :=
  ⟨h.1, h.2.1, fun a e i t ht => by obtain ⟨h1, q⟩ := h.2.2 a e i t ht; exact ⟨hST _ h1, q⟩⟩
theorem RwF.imp {P' : α → List Value → Prop} (hP : ∀ e vs, e ∈ l → P e vs → P' e vs) (h : RwF n P S w x l) : RwF n P' S w x l :=
  ⟨h.1, h.2.1, fun a e i t ht => by obtain ⟨h1, vs, h2, h3⟩ := h.2.2 a e i t ht; exact ⟨h1, vs, hP t vs (List.mem_of_getElem? ht) h2, h3⟩⟩
theorem RwF.some (h : RwF n P S w x l) (hl : 0 < l.length) : ∃ a, x = .some a := by
  cases x with
  | none => rw [h.2.1 rfl] at hl; simp at hl
  | some a => exact ⟨a, rfl⟩
theorem RwF.el {a : Addr} (h : RwF n P S w (.some a) l) (i : Nat) (hi : i < l.length) : ∃ e vs, l[i]? = .some e ∧ S a.block ∧ P e vs ∧ CsAt w (a.add (i * n)) vs := by
  obtain ⟨h1, vs, h2, h3⟩ := h.2.2 a rfl i l[i] (List.getElem?_eq_getElem hi)
  exact ⟨l[i], vs, List.getElem?_eq_getElem hi, h1, h2, h3⟩
theorem RwF.nil (n : Nat) (P : α → List Value → Prop) (S : Nat → Prop) (w : World) : RwF n P S w none [] := ⟨by simp, fun _ => rfl, fun a e => by cases e⟩
end
theorem flat_at {n : Nat} : ∀ (vss : List (List Value)) (i j : Nat) (vs : List Value), (∀ v ∈ vss, v.length = n) → vss[i]? = some vs → j < n → vss.flatten[i * n + j]? = vs[j]?
  | [], i, j, vs, _, h, _ => by simp at h
  | a :: vss, 0, j, vs, hn, h, hj => by
    simp at h
    subst h
    rw [List.flatten_cons, List.getElem?_append_left (by rw [hn a (by simp)]; omega)]
    simp
  | a :: vss, i + 1, j, vs, hn, h, hj => by
    have := flat_at vss i j vs (fun v hv => hn v (by simp [hv])) (by simpa using h) hj
    have ha : a.length = n := hn a (by simp)
    rw [List.flatten_cons, List.getElem?_append_right (by rw [ha, Nat.add_mul]; omega)]
    rw [show (i + 1) * n + j - a.length = i * n + j by rw [ha, Nat.add_mul]; omega]
    exact this
theorem flat_len {n : Nat} : ∀ (vss : List (List Value)), (∀ v ∈ vss, v.length = n) → vss.flatten.length = vss.length * n
  | [], _ => by simp
  | a :: vss, hn => by
    have := flat_len vss (fun v hv => hn v (by simp [hv]))
    have ha : a.length = n := hn a (by simp)
    rw [List.flatten_cons, List.length_append, this, ha, List.length_cons, Nat.add_mul]
    omega
theorem flat_ex {n : Nat} (vss : List (List Value)) (hn : ∀ v ∈ vss, v.length = n) (j : Nat) (u : Value) (h : vss.flatten[j]? = some u) : ∃ i r vs, vss[i]? = some vs ∧ j = i * n + r ∧ vs[r]? = some u := by
  have hj := (List.getElem?_eq_some_iff.1 h).1
  rw [flat_len vss hn] at hj
  have n0 : 0 < n := by
    rcases Nat.eq_zero_or_pos n with q | q
    · subst q; simp at hj
    · exact q
  have hi : j / n < vss.length := by rw [Nat.div_lt_iff_lt_mul n0]; exact hj
  have ej : j = j / n * n + j % n := by rw [Nat.mul_comm]; exact (Nat.div_add_mod j n).symm
  refine ⟨j / n, j % n, vss[j / n], List.getElem?_eq_getElem hi, ej, ?_⟩
  rw [← flat_at vss (j / n) (j % n) _ hn (List.getElem?_eq_getElem hi) (Nat.mod_lt _ n0), ← ej]
  exact h
/-- A row of one's own, read row by row. -/
theorem own_rows {w : World} {base : Nat} {T : TypeId} {n k : Nat} {x : Value} {vss : List (List Value)} (h : w.ownsRow base T n x k vss.flatten) (hn : ∀ v ∈ vss, v.length = n) (hk : vss.length = k) :
    ∃ y c, x = .slice y k c ∧ (y = none → k = 0) ∧ ∀ a, y = some a → Fresh base w.heap.size a.block ∧ x.ownBlock = some a.block ∧ ∀ (i : Nat) vs, vss[i]? = some vs → CsAt w (a.add (i * n)) vs := by
  have hc := fun g (hg : x.ownBlock = some g) => h.cells hg
  have hl := h.lt
  obtain ⟨_, h2⟩ := h
  rcases h2 with ⟨e, e'⟩ | ⟨g, cap, cur, e, _⟩
  · subst e'
    exact ⟨none, 0, e, fun _ => rfl, fun a q => by cases q⟩
  · subst e
    refine ⟨_, _, rfl, fun q => (by cases q), fun a q => ?_⟩
    cases q
    refine ⟨hl g rfl, rfl, fun i vs hvs j u hu => ?_⟩
    have lj : j < n := by have := (List.getElem?_eq_some_iff.1 hu).1; rw [hn vs (List.mem_of_getElem? hvs)] at this; exact this
    have := hc g rfl (i * n + j) u (by rw [flat_at vss i j vs hn hvs lj]; exact hu)
    rwa [ad_off]
/-- What tells a record's cells is kept where the blocks of S are. -/
structure Kept {α : Type} (P : (Nat → Prop) → World → α → List Value → Prop) : Prop where
  fr : ∀ {S : Nat → Prop} {w w' : World} {e : α} {vs : List Value}, P S w e vs → FrS S w w' → P S w' e vs
  sub : ∀ {S T : Nat → Prop} {w : World} {e : α} {vs : List Value}, (∀ b, S b → T b) → P S w e vs → P T w e vs
/-- So many are made. -/
def MkI {α : Type} (T : TypeId) (n : Nat) (P : (Nat → Prop) → World → α → List Value → Prop) (base : Nat) (l : List α) (k : Nat) (out : Value) (wr : World) : Prop :=
  ∃ vss : List (List Value), vss.length = k ∧ (∀ v ∈ vss, v.length = n) ∧ wr.ownsRow base T n out k vss.flatten ∧
    ∀ (i : Nat) vs e, vss[i]? = some vs → l[i]? = some e → P (fun b => Fresh base wr.heap.size b ∧ out.ownBlock ≠ some b) wr e vs
section
variable {α : Type} {T : TypeId} {n base k : Nat} {P : (Nat → Prop) → World → α → List Value → Prop} {l : List α} {out out' : Value} {wr W w7 : World}
theorem MkI.zero (T : TypeId) (n base : Nat) (P : (Nat → Prop) → World → α → List Value → Prop) (l : List α) (w : World) : MkI T n P base l 0 (.slice none 0 0) w := ⟨[], rfl, fun v hv => (by cases hv), World.ownsRow_nil _ _ _ _, fun i t e h => by simp at h⟩
/-- The row that was made. -/
theorem MkI.done (K : Kept P) (h : MkI T n P base l l.length out wr) (hf : few l.length) : ∃ y c, out = .slice y l.length c ∧ RwF n (P (Fresh base wr.heap.size) wr) (Fresh base wr.heap.size) wr y l := by
  obtain ⟨vss, el, hn, ho, hv⟩ := h
  obtain ⟨y, c, e, h0, ha⟩ := own_rows ho hn el
  refine ⟨y, c, e, hf, fun q => List.length_eq_zero_iff.1 (h0 q), fun a q i t ht => ?_⟩
  obtain ⟨h1, h2, h3⟩ := ha a q
  have il : i < l.length := (List.getElem?_eq_some_iff.1 ht).1
  obtain ⟨vs, hvs⟩ : ∃ vs, vss[i]? = some vs := ⟨_, List.getElem?_eq_getElem (by omega)⟩
  exact ⟨h1, vs, K.sub (fun b hb => hb.1) (hv i vs t hvs ht), h3 i vs hvs⟩
end
/-- The cells of records that lie in cells of their own. -/
abbrev Is {α : Type} (cs : α → List Value) : α → List Value → Prop := fun e vs => vs = cs e
section
variable {α : Type} {n : Nat} {cs : α → List Value} {S : Nat → Prop} {w : World} {l : List α} {a : Addr}
theorem RwF.flat (hn : ∀ e, (cs e).length = n) (h : RwF n (Is cs) S w (.some a) l) : ∀ (j : Nat) u, (l.map cs).flatten[j]? = .some u → w.cell? (a.add j) = .some u := by
  intro j u hu
  obtain ⟨i, r, vs, h1, rfl, h3⟩ := flat_ex (n := n) (l.map cs) (by intro v hv; obtain ⟨e, _, rfl⟩ := List.mem_map.1 hv; exact hn e) j u hu
  rw [List.getElem?_map] at h1
  obtain ⟨e, he, rfl⟩ := Option.map_eq_some_iff.1 h1
  obtain ⟨_, vs, rfl, hc⟩ := h.2.2 a rfl i e he
  have := hc r u h3
  rwa [ad_off] at this
end
theorem RwF.old {α : Type} {n : Nat} {P : α → List Value → Prop} {w W : World} {x : Option Addr} {l : List α} (h : RwF n P (fun b => b < w.heap.size) w x l) (hb : Below w.heap.size w W) : RwF n P (fun b => b < W.heap.size) W x l := (h.fr (fun q hq => hb.cell hq)).sub fun b q => Nat.lt_of_lt_of_le q hb.size
end Go.Proofs.YtdcjngakmkgbmaaGreat
namespace Go.Proofs.YtdcjngakmkgbmaaGreat
set_option linter.unusedVariables false
open Go.RowKit
/-- A cell. -/
structure CeR where
  kd : Int
  sb : Bool
  lo : Int
  hi : Int
  mx : Int
  ik : Int
  ib : Int
  is : ByteArray
  kp : Bool
  dr : Int
  ad : ByteArray
/-- An instruction. -/
structure OpR where
  cd : Int
  a : Int
  b : Int
  c : Int
  d : Int
  lo : Int
  hi : Int
  vk : Int
  vb : Int
  vs : ByteArray
/-- A loop. -/
structure LpR where
  hd : Int
  en : Int
  tm : Int
/-- A code. -/
structure FlR where
  nm : ByteArray
  wh : Int
  ce : Int
  ba : Int
  rg : Int
  sl : Int
  os : List OpR
  ls : List LpR
/-- A task. -/
structure JbR where
  nm : ByteArray
  iv : Int
  sg : Int
  pr : Int
  cs : List Int
  bs : List Int
  bd : Int
/-- An image. -/
structure ImR where
  nm : ByteArray
  cs : List CeR
  fs : List FlR
  js : List JbR
abbrev ceC (c : CeR) : List Value := [.int .u8 c.kd, .bool c.sb, .int .i64 c.lo, .int .i64 c.hi, .int .i64 c.mx, .int .u8 c.ik, .int .u64 c.ib, .string c.is, .bool c.kp, .int .i64 c.dr, .string c.ad]
abbrev opC (o : OpR) : List Value := [.int .i64 o.cd, .int .i64 o.a, .int .i64 o.b, .int .i64 o.c, .int .i64 o.d, .int .i64 o.lo, .int .i64 o.hi, .int .u8 o.vk, .int .u64 o.vb, .string o.vs]
abbrev lpC (l : LpR) : List Value := [.int .i64 l.hd, .int .i64 l.en, .int .i64 l.tm]
abbrev inC (n : Int) : List Value := [.int .i64 n]
/-- The cells of a code. -/
abbrev flC (f : FlR) (o l : Value) : List Value := [.string f.nm, .int .i64 f.wh, .int .i64 f.ce, .int .i64 f.ba, .int .i64 f.rg, .int .i64 f.sl, o, l]
abbrev jbC (j : JbR) (c b : Value) : List Value := [.string j.nm, .int .i64 j.iv, .int .i64 j.sg, .int .i64 j.pr, c, b, .int .i64 j.bd]
abbrev imC (m : ImR) (c f j : Value) : List Value := [.string m.nm, c, f, j]
/-- A code's parts. -/
def FlQ (S : Nat → Prop) (w : World) (f : FlR) (x1 x2 : Option Addr) : Prop := RwF 10 (Is opC) S w x1 f.os ∧ RwF 3 (Is lpC) S w x2 f.ls
def FlP (S : Nat → Prop) (w : World) (f : FlR) (vs : List Value) : Prop := ∃ x1 c1 x2 c2, vs = flC f (.slice x1 f.os.length c1) (.slice x2 f.ls.length c2) ∧ FlQ S w f x1 x2
/-- A task's parts. -/
def JbQ (S : Nat → Prop) (w : World) (j : JbR) (x1 x2 : Option Addr) : Prop := RwF 1 (Is inC) S w x1 j.cs ∧ RwF 1 (Is inC) S w x2 j.bs
def JbP (S : Nat → Prop) (w : World) (j : JbR) (vs : List Value) : Prop := ∃ x1 c1 x2 c2, vs = jbC j (.slice x1 j.cs.length c1) (.slice x2 j.bs.length c2) ∧ JbQ S w j x1 x2
/-- An image's parts. -/
def ImQ (S : Nat → Prop) (w : World) (m : ImR) (x1 x2 x3 : Option Addr) : Prop := RwF 11 (Is ceC) S w x1 m.cs ∧ RwF 8 (FlP S w) S w x2 m.fs ∧ RwF 7 (JbP S w) S w x3 m.js
theorem FlQ.fr {S : Nat → Prop} {w w' : World} {f : FlR} {x1 x2 : Option Addr} (h : FlQ S w f x1 x2) (k : FrS S w w') : FlQ S w' f x1 x2 := ⟨h.1.fr k, h.2.fr k⟩
theorem FlQ.sub {S T : Nat → Prop} (hST : ∀ b, S b → T b) {w : World} {f : FlR} {x1 x2 : Option Addr} (h : FlQ S w f x1 x2) : FlQ T w f x1 x2 := ⟨h.1.sub hST, h.2.sub hST⟩
theorem JbQ.fr {S : Nat → Prop} {w w' : World} {f : JbR} {x1 x2 : Option Addr} (h : JbQ S w f x1 x2) (k : FrS S w w') : JbQ S w' f x1 x2 := ⟨h.1.fr k, h.2.fr k⟩
theorem JbQ.sub {S T : Nat → Prop} (hST : ∀ b, S b → T b) {w : World} {f : JbR} {x1 x2 : Option Addr} (h : JbQ S w f x1 x2) : JbQ T w f x1 x2 := ⟨h.1.sub hST, h.2.sub hST⟩
theorem keptF : Kept FlP where
  fr := fun ⟨x1, c1, x2, c2, e, h⟩ k => ⟨x1, c1, x2, c2, e, h.fr k⟩
  sub := fun hST ⟨x1, c1, x2, c2, e, h⟩ => ⟨x1, c1, x2, c2, e, h.sub hST⟩
theorem keptJ : Kept JbP where
  fr := fun ⟨x1, c1, x2, c2, e, h⟩ k => ⟨x1, c1, x2, c2, e, h.fr k⟩
  sub := fun hST ⟨x1, c1, x2, c2, e, h⟩ => ⟨x1, c1, x2, c2, e, h.sub hST⟩
theorem RwF.frK {α : Type} {n : Nat} {P : (Nat → Prop) → World → α → List Value → Prop} (K : Kept P) {S : Nat → Prop} {w w' : World} {x : Option Addr} {l : List α} (h : RwF n (P S w) S w x l) (f : FrS S w w') : RwF n (P S w') S w' x l := (h.fr f).imp fun e vs _ q => K.fr q f
theorem RwF.subK {α : Type} {n : Nat} {P : (Nat → Prop) → World → α → List Value → Prop} (K : Kept P) {S T : Nat → Prop} (hST : ∀ b, S b → T b) {w : World} {x : Option Addr} {l : List α} (h : RwF n (P S w) S w x l) : RwF n (P T w) T w x l := (h.sub hST).imp fun e vs _ q => K.sub hST q
theorem ImQ.fr {S : Nat → Prop} {w w' : World} {m : ImR} {x1 x2 x3 : Option Addr} (h : ImQ S w m x1 x2 x3) (k : FrS S w w') : ImQ S w' m x1 x2 x3 := ⟨h.1.fr k, h.2.1.frK keptF k, h.2.2.frK keptJ k⟩
theorem ImQ.sub {S T : Nat → Prop} (hST : ∀ b, S b → T b) {w : World} {m : ImR} {x1 x2 x3 : Option Addr} (h : ImQ S w m x1 x2 x3) : ImQ T w m x1 x2 x3 := ⟨h.1.sub hST, h.2.1.subK keptF hST, h.2.2.subK keptJ hST⟩
theorem ImQ.old {w W : World} {m : ImR} {x1 x2 x3 : Option Addr} (h : ImQ (fun b => b < w.heap.size) w m x1 x2 x3) (hb : Below w.heap.size w W) : ImQ (fun b => b < W.heap.size) W m x1 x2 x3 := (h.fr (fun q hq => hb.cell hq)).sub fun b q => Nat.lt_of_lt_of_le q hb.size
theorem FlQ.old {w W : World} {m : FlR} {x1 x2 : Option Addr} (h : FlQ (fun b => b < w.heap.size) w m x1 x2) (hb : Below w.heap.size w W) : FlQ (fun b => b < W.heap.size) W m x1 x2 := (h.fr (fun q hq => hb.cell hq)).sub fun b q => Nat.lt_of_lt_of_le q hb.size
theorem JbQ.old {w W : World} {m : JbR} {x1 x2 : Option Addr} (h : JbQ (fun b => b < w.heap.size) w m x1 x2) (hb : Below w.heap.size w W) : JbQ (fun b => b < W.heap.size) W m x1 x2 := (h.fr (fun q hq => hb.cell hq)).sub fun b q => Nat.lt_of_lt_of_le q hb.size
end Go.Proofs.YtdcjngakmkgbmaaGreat
namespace Go.Proofs.YtdcjngakmkgbmaaGreat
set_option linter.unusedVariables false
open Go.RowKit
end Go.Proofs.YtdcjngakmkgbmaaGreat
