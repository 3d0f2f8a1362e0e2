/- What the value package's signed, opposite, fitted and the document's made come to; no statement of the seat is proved here. -/
import Derived.Test.YtpaibmganlaaeaaGreatDoorFz01
import Derived.Laws.CopyOwn
import Derived.OwnWalk
import Derived.Handy
import Derived.BigQuiet
namespace Go.Proofs.YtpaibmganlaaeaaGreatDoor
set_option linter.unusedVariables false
open Go.RowKit
/-- The kind that a letter means. -/
def kdN (c : Nat) : Int := if c = 66 then 1 else if c = 73 then 3 else 14
/-- The kind of a block's variable of a number. -/
def kAt (ks : ByteArray) (i : Nat) : Int := if h : i < ks.size then kdN ks[i].toNat else 14
theorem kAt_in (ks : ByteArray) (i : Nat) (h : i < ks.size) : kAt ks i = kdN ks[i].toNat := by simp [kAt, h]
theorem kdN_cases (c : Nat) : kdN c = 1 ∨ kdN c = 3 ∨ kdN c = 14 := by unfold kdN; by_cases a : c = 66 <;> by_cases b : c = 73 <;> simp [a, b]
theorem kAt_cases (ks : ByteArray) (i : Nat) : kAt ks i = 1 ∨ kAt ks i = 3 ∨ kAt ks i = 14 := by
  unfold kAt; split
  · exact kdN_cases _
  · exact .inr (.inr rfl)
theorem kd1 (n : Nat) (h : ((n : Int) == 66) = true) : 1 = kdN n := by simp at h; unfold kdN; rw [if_pos (by omega)]
theorem kd3 (n : Nat) (h : ((n : Int) == 66) = false) (g : ((n : Int) == 73) = true) : 3 = kdN n := by simp at h g; unfold kdN; rw [if_neg (by omega), if_pos (by omega)]
theorem kd14 (n : Nat) (h : ((n : Int) == 66) = false) (g : ((n : Int) == 73) = false) : 14 = kdN n := by simp at h g; unfold kdN; rw [if_neg (by omega), if_neg (by omega)]
/-- A value's parts. -/
structure Vl where
  k : Int
  b : Int
  s : ByteArray
/-- The parts are in their ranges. -/
structure VlOk (v : Vl) : Prop where
  k0 : 0 ≤ v.k
  k1 : v.k < 256
  b0 : 0 ≤ v.b
  b1 : v.b < 18446744073709551616
  s1 : v.s.size ≤ maxLen
/-- Values one behind the other in memory. -/
def VsAt (w : World) (a : Addr) (n : Nat) (v : Nat → Vl) : Prop := ∀ i, i < n → w.cell? (a.add (i * 3)) = some (.int .u8 (v i).k) ∧ w.cell? ⟨(a.add (i * 3)).block, (a.add (i * 3)).off + 1, none⟩ = some (.int .u64 (v i).b) ∧ w.cell? ⟨(a.add (i * 3)).block, (a.add (i * 3)).off + 2, none⟩ = some (.string (v i).s)
theorem VsAt.below {w wr : World} {a : Addr} {n : Nat} {v : Nat → Vl} (h : VsAt w a n v) (hb : Below w.heap.size w wr) : VsAt wr a n v := by
  intro i hi
  obtain ⟨h0, h1, h2⟩ := h i hi
  have z := block_lt_of_cell h0
  exact ⟨by rw [hb.cell z]; exact h0, by rw [hb.cell (p := ⟨(a.add (i * 3)).block, (a.add (i * 3)).off + 1, none⟩) z]; exact h1, by rw [hb.cell (p := ⟨(a.add (i * 3)).block, (a.add (i * 3)).off + 2, none⟩) z]; exact h2⟩
/-- The cells are of the kinds that a block has, and may be. -/
def tkB (ks : ByteArray) (v : Nat → Vl) (n : Nat) : Bool := decide (∀ i, i < n → (v i).k = kAt ks i ∧ may3 (v i).k (v i).b (v i).s = true)
theorem tkB_t {ks : ByteArray} {v : Nat → Vl} {n : Nat} (h : ∀ i, i < n → (v i).k = kAt ks i ∧ may3 (v i).k (v i).b (v i).s = true) : true = tkB ks v n := by unfold tkB; exact (decide_eq_true h).symm
theorem tkB_f {ks : ByteArray} {v : Nat → Vl} {n k : Nat} (hk : k < n) (h : ¬ ((v k).k = kAt ks k ∧ may3 (v k).k (v k).b (v k).s = true)) : false = tkB ks v n := by
  unfold tkB; exact (decide_eq_false (fun g => h (g k hk))).symm
/-- What a round needs of a block in its box. -/
structure BxAt (w : World) (g : Nat) (nm names ks : ByteArray) (ins outs : Int) (fn : Value) : Prop where
  c0 : w.cell? ⟨g, 0, none⟩ = some (.string nm)
  c1 : w.cell? ⟨g, 1, none⟩ = some (.string names)
  c2 : w.cell? ⟨g, 2, none⟩ = some (.string ks)
  c3 : w.cell? ⟨g, 3, none⟩ = some (.int .i64 ins)
  c4 : w.cell? ⟨g, 4, none⟩ = some (.int .i64 outs)
  c5 : w.cell? ⟨g, 5, none⟩ = some fn
theorem BxAt.below {w wr : World} {g : Nat} {nm names ks : ByteArray} {ins outs : Int} {fn : Value} (h : BxAt w g nm names ks ins outs fn) (hb : Below w.heap.size w wr) : BxAt wr g nm names ks ins outs fn := by
  have z := block_lt_of_cell h.c0
  exact ⟨(hb.cell (p := ⟨g, 0, none⟩) z).trans h.c0, (hb.cell (p := ⟨g, 1, none⟩) z).trans h.c1, (hb.cell (p := ⟨g, 2, none⟩) z).trans h.c2, (hb.cell (p := ⟨g, 3, none⟩) z).trans h.c3, (hb.cell (p := ⟨g, 4, none⟩) z).trans h.c4, (hb.cell (p := ⟨g, 5, none⟩) z).trans h.c5⟩
end Go.Proofs.YtpaibmganlaaeaaGreatDoor
namespace Go.Proofs.YtpaibmganlaaeaaGreatDoor
set_option linter.unusedVariables false
open Go.RowKit
/-- A variable's cells. -/
def vrC (nm : ByteArray) (cl kd : Int) (ini : Value) : List Value :=
  [.string nm, .int .i64 0, .int .i64 cl, .int .u8 kd, .bool false, .int .i64 0, .int .i64 0, .int .i64 0, .bool false, .int .i64 0, .int .i64 0, .string ⟨#[]⟩, ini, .bool false, .bool false, .string ⟨#[]⟩]
/-- What a row of variables holds. -/
structure VrF where
  nm : Nat → ByteArray
  cl : Nat → Int
  kd : Nat → Int
  ini : Nat → Value
def vrL (n : Nat) (v : VrF) : List Value := (List.range n).flatMap fun i => vrC (v.nm i) (v.cl i) (v.kd i) (v.ini i)
theorem vrL_succ (n : Nat) (v : VrF) : vrL (n + 1) v = vrL n v ++ vrC (v.nm n) (v.cl n) (v.kd n) (v.ini n) := by
  unfold vrL; rw [List.range_succ, List.flatMap_append]; simp
theorem vrL_len (n : Nat) (v : VrF) : (vrL n v).length = n * 16 := by
  induction n with
  | zero => rfl
  | succ n ih => rw [vrL_succ, List.length_append, ih]; simp [vrC]; omega
theorem vrL_at (n : Nat) (v : VrF) (i j : Nat) (hi : i < n) (hj : j < 16) : (vrL n v)[i * 16 + j]? = (vrC (v.nm i) (v.cl i) (v.kd i) (v.ini i))[j]? := by
  induction n with
  | zero => omega
  | succ n ih =>
    have l := vrL_len n v
    rw [vrL_succ]
    by_cases h : i < n
    · rw [List.getElem?_append_left (by omega)]; exact ih h
    · have e : i = n := by omega
      subst e
      rw [List.getElem?_append_right (by omega), l, Nat.add_sub_cancel_left]
theorem vrL_congr (n : Nat) (v u : VrF) (h : ∀ i, i < n → v.nm i = u.nm i ∧ v.cl i = u.cl i ∧ v.kd i = u.kd i ∧ v.ini i = u.ini i) : vrL n v = vrL n u := by
  induction n with
  | zero => rfl
  | succ n ih =>
    rw [vrL_succ, vrL_succ, ih (fun i hi => h i (by omega))]
    obtain ⟨a, b, c, d⟩ := h n (by omega)
    rw [a, b, c, d]
/-- Variables one behind the other in memory. -/
def VrAt (w : World) (g n : Nat) (v : VrF) : Prop := ∀ i, i < n → ∀ j, j < 16 → w.cell? ⟨g, i * 16 + j, none⟩ = (vrC (v.nm i) (v.cl i) (v.kd i) (v.ini i))[j]?
theorem VrAt.below {w w' : World} {g n : Nat} {v : VrF} (h : VrAt w g n v) (hb : Below w.heap.size w w') : VrAt w' g n v := by
  intro i hi j hj
  have z : g < w.heap.size := block_lt_of_cell (a := ⟨g, i * 16 + 0, none⟩) (h i hi 0 (by omega))
  rw [hb.cell (p := ⟨g, i * 16 + j, none⟩) z]; exact h i hi j hj
theorem ownsRow_below {w w' : World} {base : Nat} {e : TypeId} {size : Nat} {x : Value} {n : Nat} {xs : List Value} (h : w.ownsRow base e size x n xs) (hb : Below w.heap.size w w') : w'.ownsRow base e size x n xs := by
  obtain ⟨h1, h2⟩ := h
  refine ⟨h1, ?_⟩
  rcases h2 with h2 | ⟨g, cap, cur, hv, hg, hh, r⟩
  · exact .inl h2
  · exact .inr ⟨g, cap, cur, hv, hg, by rw [hb.block g (lt_of_block hh)]; exact hh, r⟩
/-- What a slice of variables that this call made holds. -/
theorem own_vars {w : World} {base n : Nat} {x : Value} {v : VrF} {e : TypeId} (h : w.ownsRow base e 16 x n (vrL n v)) (hn : 0 < n) : ∃ g cap, x = .slice (some ⟨g, 0, none⟩) n cap ∧ base ≤ g ∧ VrAt w g n v := by
  obtain ⟨h1, h2⟩ := h
  rcases h2 with ⟨_, e⟩ | ⟨g, cap, cur, e, hb, hg, hc, hm, hs, ht⟩
  · omega
  · refine ⟨g, cap, e, hb, fun i hi j hj => ?_⟩
    have f := vrL_at n v i j hi hj
    rw [← ht, List.getElem?_take_of_lt (by omega)] at f
    simp only [World.cell?, hg]
    simpa using f
theorem vrC_one (nm : ByteArray) (cl kd : Int) (ini : Value) (h : ini.oneCell' = true) : ∀ u ∈ vrC nm cl kd ini, u.oneCell' = true := by
  intro u hu
  unfold vrC at hu
  simp at hu
  rcases hu with rfl | rfl | rfl | rfl | rfl | rfl | rfl | rfl | rfl | rfl | rfl | rfl | rfl | rfl | rfl | rfl <;> first | rfl | exact h
/-- The cells of a block that was made last. -/
theorem last_src (w : World) (l : List Value) (t : TypeId) : ∀ j u, l[j]? = some u → (w.alloc (.cells l.toArray t)).cell? ((⟨w.heap.size, 0, none⟩ : Addr).add j) = some u := by
  intro j u hu
  have e : (⟨w.heap.size, 0, none⟩ : Addr).add j = ⟨w.heap.size, j, none⟩ := by unfold Addr.add; split <;> simp_all
  rw [e]
  have h := heap_alloc_last w (.cells l.toArray t)
  simp only [World.cell?, h]
  simpa using hu
/-- The class of a block's variable of a number. -/
def clsN (ins outs : Int) (i : Nat) : Int := if (i : Int) < ins then 1 else if (i : Int) < ins + outs then 2 else 4
end Go.Proofs.YtpaibmganlaaeaaGreatDoor
namespace Go.Proofs.YtpaibmganlaaeaaGreatDoor
set_option linter.unusedVariables false
open Go.RowKit
/-- A whole number as the program holds it: is it below 0, and its size. -/
abbrev NB (n : Int) : Value := .agg #[.bool (decide (n < 0)), .int .u64 n.natAbs]
theorem NB_neg (n : Int) (h : n < 0) (g : -9223372036854775808 ≤ n) : Ending.returned (.agg #[.bool true, .int .u64 (IntKind.u64.wrap (-IntKind.u64.wrap n))]) = .returned (NB n) := by
  have e : IntKind.u64.wrap (-IntKind.u64.wrap n) = n.natAbs := by rw [IntKind.wrap_u64, IntKind.wrap_u64]; omega
  rw [e]; simp [NB, h]
theorem NB_pos (n : Int) (h : 0 ≤ n) : Ending.returned (.agg #[.bool false, .int .u64 n]) = .returned (NB n) := by
  have e : (n.natAbs : Int) = n := by omega
  have c : ¬ n < 0 := by omega
  simp [NB, c, e]
set_option maxHeartbeats 400000 in
theorem numberFrom_of (n : Int) (w : World) (g : -9223372036854775808 ≤ n ∧ n < 9223372036854775808) :
    Calls Tryz.prog 138 #[.int .i64 n] w fun e w' => e = .returned (NB n) ∧ Below w.heap.size w w' := by
  by_cases c : n < 0
  · go_enter Tryz.func138, Tryz.ntmps138
    go_wp2
    exact bodyPost_ret (v := .agg #[.bool true, .int .u64 (IntKind.u64.wrap (-IntKind.u64.wrap n))]) (by simp [results, Tryz.results138, go_sem]) rfl ⟨NB_neg n c g.1, (Below.refl _ _).alloc (Nat.le_refl _) _⟩
  · go_enter Tryz.func138, Tryz.ntmps138
    go_wp2
    exact bodyPost_ret (v := .agg #[.bool false, .int .u64 n]) (by simp [results, Tryz.results138, go_sem]) rfl ⟨NB_pos n (by omega), (Below.refl _ _).alloc (Nat.le_refl _) _⟩
def cmpI (a b : Int) : Int := if a < b then -1 else if b < a then 1 else 0
theorem cmpI_lt {a b : Int} (h : a < b) : -1 = cmpI a b := by unfold cmpI; rw [if_pos h]
theorem cmpI_gt {a b : Int} (h : b < a) : 1 = cmpI a b := by unfold cmpI; rw [if_neg (by omega), if_pos h]
theorem cmpI_eq {a b : Int} (h : ¬ a < b) (g : ¬ b < a) : 0 = cmpI a b := by unfold cmpI; rw [if_neg h, if_neg g]
set_option maxHeartbeats 400000 in
theorem Compare_of (a b : Int) (w : World) :
    Calls Tryz.prog 189 #[.int .u64 a, .int .u64 b] w fun e w' => e = .returned (.int .i64 (cmpI a b)) ∧ w' = w := by
  by_cases c : a < b
  · have r := cmpI_lt c
    have R : Hid (-1 = cmpI a b) := r
    clear r
    go_enter Tryz.func189, Tryz.ntmps189
    go_wp2
    go_ret
    exact ⟨ret_int R.out, rfl⟩
  by_cases d : b < a
  · have R : Hid (1 = cmpI a b) := cmpI_gt d
    go_enter Tryz.func189, Tryz.ntmps189
    go_wp2
    go_ret
    exact ⟨ret_int R.out, rfl⟩
  · have R : Hid (0 = cmpI a b) := cmpI_eq c d
    go_enter Tryz.func189, Tryz.ntmps189
    go_wp2
    go_ret
    exact ⟨ret_int R.out, rfl⟩
/-- A value's number. -/
def num (k b : Int) : Int := if 2 ≤ k ∧ k ≤ 5 ∨ k = 14 then wrap64 b else b
theorem num_bd (k b : Int) (h0 : 0 ≤ b) (h1 : b < 18446744073709551616) : -9223372036854775808 ≤ num k b ∧ num k b < 18446744073709551616 := by
  unfold num wrap64; split <;> omega
theorem num_s {k b : Int} (h : 2 ≤ k ∧ k ≤ 5 ∨ k = 14) : num k b = wrap64 b := by unfold num; rw [if_pos h]
theorem num_u {k b : Int} (h : ¬ (2 ≤ k ∧ k ≤ 5 ∨ k = 14)) : num k b = b := by unfold num; rw [if_neg h]
theorem wrap64_bd (b : Int) : -9223372036854775808 ≤ wrap64 b ∧ wrap64 b < 9223372036854775808 := by unfold wrap64; omega
/-- Behind a call that only makes memory all old cells and marks read as before. -/
theorem bcell {W w1 : World} (hb : Below W.heap.size W w1) : (∀ b o, b < W.heap.size → w1.cell? ⟨b, o, none⟩ = W.cell? ⟨b, o, none⟩) ∧ (∀ b o, b < W.heap.size → w1.frozen? ⟨b, o, none⟩ = W.frozen? ⟨b, o, none⟩) :=
  ⟨fun b o h => hb.cell (p := ⟨b, o, none⟩) h, fun b o h => hb.frozen (p := ⟨b, o, none⟩) h⟩
/-- The end of a call that boxes one thing, makes another, calls, and stores into the second. -/
theorem below_two {w w1 : World} {x y : Obj} (hb : Below ((w.alloc x).alloc y).heap.size ((w.alloc x).alloc y) w1) {u v : Value} {i j : Nat} :
    Below w.heap.size w ((w1.setCell ⟨w.heap.size + 1, i, none⟩ u).setCell ⟨w.heap.size + 1, j, none⟩ v) :=
  (((((Below.refl _ _).alloc (Nat.le_refl _) _).alloc (by simp) _).trans (hb.mono (by simp; omega))).setCell (by simp) _).setCell (by simp) _
set_option maxHeartbeats 400000 in
theorem numberOf_s (k b : Int) (s : ByteArray) (w : World) (h0 : 0 ≤ b) (h1 : b < 18446744073709551616) (c1 : 2 ≤ k) (c2 : k ≤ 5) :
    Calls Tryz.prog 129 #[V k b s] w fun e w' => e = .returned (NB (num k b)) ∧ Below w.heap.size w w' := by
  rw [num_s (.inl ⟨c1, c2⟩)]
  go_enter Tryz.func129, Tryz.ntmps129
  go_wp2_with (first | (go_at_call 138; refine (numberFrom_of _ _ (wrap64_bd b)).mono ?_; rintro e w1 ⟨rfl, hb⟩; obtain ⟨hc, hf⟩ := bcell hb) | go_in)
  exact bodyPost_ret (v := NB (wrap64 b)) (by simp [results, Tryz.results129, go_sem, hc]) rfl ⟨rfl, below_two hb⟩
set_option maxHeartbeats 400000 in
theorem numberOf_t (b : Int) (s : ByteArray) (w : World) (h0 : 0 ≤ b) (h1 : b < 18446744073709551616) :
    Calls Tryz.prog 129 #[V 14 b s] w fun e w' => e = .returned (NB (num 14 b)) ∧ Below w.heap.size w w' := by
  rw [num_s (.inr rfl)]
  go_enter Tryz.func129, Tryz.ntmps129
  go_wp2_with (first | (go_at_call 138; refine (numberFrom_of _ _ (wrap64_bd b)).mono ?_; rintro e w1 ⟨rfl, hb⟩; obtain ⟨hc, hf⟩ := bcell hb) | go_in)
  exact bodyPost_ret (v := NB (wrap64 b)) (by simp [results, Tryz.results129, go_sem, hc]) rfl ⟨rfl, below_two hb⟩
set_option maxHeartbeats 400000 in
theorem numberOf_u1 (k b : Int) (s : ByteArray) (w : World) (h0 : 0 ≤ b) (h1 : b < 18446744073709551616) (c : k < 2) :
    Calls Tryz.prog 129 #[V k b s] w fun e w' => e = .returned (NB (num k b)) ∧ Below w.heap.size w w' := by
  rw [num_u (by omega)]
  have c14 : (k == 14) = false := by simp; omega
  go_enter Tryz.func129, Tryz.ntmps129
  go_wp2
  exact bodyPost_ret (v := .agg #[.bool false, .int .u64 b]) (by simp [results, Tryz.results129, go_sem]) rfl ⟨NB_pos b h0, ((Below.refl _ _).alloc (Nat.le_refl _) _).alloc (by simp) _⟩
set_option maxHeartbeats 400000 in
theorem numberOf_u2 (k b : Int) (s : ByteArray) (w : World) (h0 : 0 ≤ b) (h1 : b < 18446744073709551616) (c : 5 < k) (d : ¬ k = 14) :
    Calls Tryz.prog 129 #[V k b s] w fun e w' => e = .returned (NB (num k b)) ∧ Below w.heap.size w w' := by
  rw [num_u (by omega)]
  have c14 : (k == 14) = false := by simp; omega
  go_enter Tryz.func129, Tryz.ntmps129
  go_wp2
  exact bodyPost_ret (v := .agg #[.bool false, .int .u64 b]) (by simp [results, Tryz.results129, go_sem]) rfl ⟨NB_pos b h0, ((Below.refl _ _).alloc (Nat.le_refl _) _).alloc (by simp) _⟩
theorem numberOf_of (k b : Int) (s : ByteArray) (w : World) (h0 : 0 ≤ b) (h1 : b < 18446744073709551616) :
    Calls Tryz.prog 129 #[V k b s] w fun e w' => e = .returned (NB (num k b)) ∧ Below w.heap.size w w' := by
  by_cases a : k < 2
  · exact numberOf_u1 k b s w h0 h1 a
  by_cases c : k ≤ 5
  · exact numberOf_s k b s w h0 h1 (by omega) c
  by_cases d : k = 14
  · subst d; exact numberOf_t b s w h0 h1
  · exact numberOf_u2 k b s w h0 h1 (by omega) d
end Go.Proofs.YtpaibmganlaaeaaGreatDoor
namespace Go.Proofs.YtpaibmganlaaeaaGreatDoor
set_option linter.unusedVariables false
open Go.RowKit
/-- Kinds one behind the other in memory. -/
def KsAt (w : World) (a : Addr) (n : Nat) (κ : Nat → Int) : Prop := ∀ i, i < n → w.cell? (a.add i) = some (.int .u8 (κ i))
theorem KsAt.below {w wr : World} {a : Addr} {n : Nat} {κ : Nat → Int} (h : KsAt w a n κ) (hb : Below w.heap.size w wr) : KsAt wr a n κ := by
  intro i hi
  have h0 := h i hi
  rw [hb.cell (block_lt_of_cell h0)]; exact h0
theorem KsAt.other {w wr : World} {a : Addr} {n : Nat} {κ : Nat → Int} (h : KsAt w a n κ) (hb : wr.heap[a.block]? = w.heap[a.block]?) : KsAt wr a n κ := by
  intro i hi
  have h0 := h i hi
  have e : (a.add i).block = a.block := by unfold Addr.add; split <;> rfl
  rw [← h0]; exact World.cell?_of_block (w := w) (a := a.add i) (by rw [e]; exact hb)
/-- The cells of a row of kinds. -/
def ksL (n : Nat) (κ : Nat → Int) : List Value := (List.range n).map fun i => .int .u8 (κ i)
theorem ksL_succ (n : Nat) (κ : Nat → Int) : ksL (n + 1) κ = ksL n κ ++ [.int .u8 (κ n)] := by unfold ksL; rw [List.range_succ, List.map_append]; rfl
theorem ksL_at (n : Nat) (κ : Nat → Int) (i : Nat) (h : i < n) : (ksL n κ)[i]? = some (.int .u8 (κ i)) := by unfold ksL; simp [h]
theorem ownB {w : World} {base : Nat} {e : TypeId} {size : Nat} {x : Value} {n : Nat} {xs : List Value} (h : w.ownsRow base e size x n xs) {g : Nat} (hg : x.ownBlock = some g) : base ≤ g := by
  obtain ⟨_, h2⟩ := h
  rcases h2 with ⟨rfl, _⟩ | ⟨g', cap, cur, rfl, hb, _⟩
  · simp [Value.ownBlock] at hg
  · simp [Value.ownBlock] at hg; omega
theorem own_kinds {w : World} {base n : Nat} {x : Value} {κ : Nat → Int} {e : TypeId} (h : w.ownsRow base e 1 x n (ksL n κ)) (hn : 0 < n) : ∃ g cap, x = .slice (some ⟨g, 0, none⟩) n cap ∧ base ≤ g ∧ KsAt w ⟨g, 0, none⟩ n κ ∧ n ≤ cap := by
  obtain ⟨h1, h2⟩ := h
  rcases h2 with ⟨_, e⟩ | ⟨g, cap, cur, e, hb, hg, hc, hm, hs, ht⟩
  · omega
  · refine ⟨g, cap, e, hb, fun i hi => ?_, by omega⟩
    have a := ksL_at n κ i hi
    rw [← ht, List.getElem?_take_of_lt (by omega)] at a
    have e : (⟨g, 0, none⟩ : Addr).add i = ⟨g, i, none⟩ := by unfold Addr.add; split <;> simp_all
    rw [e]
    simp only [World.cell?, hg]
    simpa using a
end Go.Proofs.YtpaibmganlaaeaaGreatDoor
namespace Go.Proofs.YtpaibmganlaaeaaGreatDoor
set_option linter.unusedVariables false
open Go.RowKit
/-- Is a kind one of integers; of bit rows? -/
def intK (k : Int) : Bool := decide (2 ≤ k ∧ k ≤ 9)
def rowK (k : Int) : Bool := decide (10 ≤ k ∧ k ≤ 13)
set_option maxHeartbeats 400000 in
theorem isInteger_of (k : Int) (w : World) : Calls Tryz.prog 93 #[.int .u8 k] w fun e w' => e = .returned (.bool (intK k)) ∧ w' = w := by
  by_cases a : 2 ≤ k <;> by_cases b : k ≤ 9
  all_goals
    go_enter Tryz.func93, Tryz.ntmps93
    go_wp2
    go_ret
    exact ⟨ret_bool (by simp [intK, a, b]), rfl⟩
set_option maxHeartbeats 400000 in
theorem isRow_of (k : Int) (w : World) : Calls Tryz.prog 99 #[.int .u8 k] w fun e w' => e = .returned (.bool (rowK k)) ∧ w' = w := by
  by_cases a : 10 ≤ k <;> by_cases b : k ≤ 13
  all_goals
    go_enter Tryz.func99, Tryz.ntmps99
    go_wp2
    go_ret
    exact ⟨ret_bool (by simp [rowK, a, b]), rfl⟩
set_option maxHeartbeats 400000 in
theorem RowR_of (k : Int) (w : World) : Calls Tryz.prog 77 #[.int .u8 k] w fun e w' => e = .returned (.bool (rowK k)) ∧ w' = w := by
  by_cases a : 10 ≤ k <;> by_cases b : k ≤ 13
  all_goals
    go_enter Tryz.func77, Tryz.ntmps77
    go_wp2
    go_ret
    exact ⟨ret_bool (by simp [rowK, a, b]), rfl⟩
/-- A kind, if it is given at all. -/
def gvK (k : Int) (p : Bool) : Int := if p then k else 0
set_option maxHeartbeats 400000 in
theorem given_of (k : Int) (p : Bool) (w : World) : Calls Tryz.prog 90 #[.int .u8 k, .bool p] w fun e w' => e = .returned (.int .u8 (gvK k p)) ∧ w' = w := by
  cases p
  all_goals
    go_enter Tryz.func90, Tryz.ntmps90
    go_wp2
    go_ret
    exact ⟨rfl, rfl⟩
theorem sInteger_is (k : Int) (w : World) (p : Bool) (h : intK k = p) : Calls Tryz.prog 93 #[.int .u8 k] w fun e w' => e = .returned (.bool p) ∧ w' = w := by subst h; exact isInteger_of k w
theorem sRow_is (k : Int) (w : World) (p : Bool) (h : rowK k = p) : Calls Tryz.prog 99 #[.int .u8 k] w fun e w' => e = .returned (.bool p) ∧ w' = w := by subst h; exact isRow_of k w
set_option maxHeartbeats 1000000 in
theorem shifted_of (hw : Int) (a : Addr) (cap : Nat) (κ : Nat → Int) (w : World) (hk : KsAt w a 2 κ) :
    Calls Tryz.prog 50 #[.int .i64 hw, .slice (some a) 2 cap] w fun e w' => e = .returned (.int .u8 (gvK (κ 0) (rowK (κ 0) && intK (κ 1)))) ∧ Below w.heap.size w w' := by
  have d0 : w.cell? a = some (.int .u8 (κ 0)) := by have := hk 0 (by decide); rwa [Addr.add_zero'] at this
  have d1 : w.cell? ⟨a.block, a.off + 1, none⟩ = some (.int .u8 (κ 1)) := hk 1 (by decide)
  have c0 : ∀ x : Sub w, x.w.cell? a = some (.int .u8 (κ 0)) := fun x => by rw [x.h.cell (block_lt_of_cell d0)]; exact d0
  have c1 : ∀ x : Sub w, x.w.cell? ⟨a.block, a.off + 1, none⟩ = some (.int .u8 (κ 1)) := fun x => by rw [x.h.cell (p := ⟨a.block, a.off + 1, none⟩) (block_lt_of_cell d1)]; exact d1
  clear hk
  cases r : rowK (κ 0) <;> cases i : intK (κ 1)
  all_goals
    have R : Hid _ := r
    have I : Hid _ := i
    clear r i
    go_enter Tryz.func50, Tryz.ntmps50
    go_wp2_with fail
    refine wp_region_sub2 (by kernel_rfl) (by kernel_rfl) ?_
    intro cx
    repeat (first | go_big_quiet_skip | (go_big_quiet_want; go_big_quiet_op; first | go_big_quiet_on | (refine ⟨_, fun _ => rfl, ?_⟩; go_big_quiet_on) | go_big_quiet_call (first | (go_at_call 99; exact calls_sub_same (sRow_is _ _ _ R.out)) | (go_at_call 93; exact calls_sub_same (sInteger_is _ _ _ I.out)) | (go_at_call 90; exact calls_sub_same (given_of _ _ _)))))
    refine wpQuiet_nil ?_
    rintro _ ⟨y, rfl⟩
    have Y : Hid (Below w.heap.size w y.w) := y.h
    clear cx
    go_wp2
    go_ret
    exact ⟨by simp, Y.out⟩
end Go.Proofs.YtpaibmganlaaeaaGreatDoor
namespace Go.Proofs.YtpaibmganlaaeaaGreatDoor
set_option linter.unusedVariables false
open Go.RowKit
/-- Are all kinds those of texts; of integers? -/
def allT (n : Nat) (κ : Nat → Int) : Bool := decide (∀ i, i < n → κ i = 19)
def allI (n : Nat) (κ : Nat → Int) : Bool := decide (∀ i, i < n → intK (κ i) = true)
theorem KsAt.shift {w : World} {a : Addr} {n m : Nat} {κ : Nat → Int} (h : KsAt w a n κ) (j : Nat) (hj : 0 < j) (hm : j + m ≤ n) : KsAt w ⟨a.block, a.off + j, none⟩ m (fun i => κ (j + i)) := by
  intro i hi
  have := h (j + i) (by omega)
  rw [← this]
  unfold Addr.add
  by_cases e : i = 0
  · subst e; rw [if_pos rfl, if_neg (by omega)]
    rfl
  · rw [if_neg e, if_neg (by omega)]
    simp [Nat.add_assoc]
theorem KsAt.less {w : World} {a : Addr} {n m : Nat} {κ : Nat → Int} (h : KsAt w a n κ) (hm : m ≤ n) : KsAt w a m κ := fun i hi => h i (by omega)
set_option maxHeartbeats 1000000 in
theorem texts_of (a : Addr) (n cap : Nat) (κ : Nat → Int) (w : World) (hk : KsAt w a n κ) (hn : n < 1000000) :
    Calls Tryz.prog 106 #[.slice (some a) n cap] w fun e w' => e = .returned (.bool (allT n κ)) ∧ w' = w := by
  have HK : Hid (KsAt w a n κ) := hk
  clear hk
  go_enter Tryz.func106, Tryz.ntmps106
  go_wp2
  go_loopw [7] (fun i wr => ∃ k : Nat, k ≤ n ∧ i = .int .i64 k ∧ wr = w ∧ ∀ j, j < k → κ j = 19) (fun i _ => n - (intOf i).toNat)
  case atStart => exact ⟨0, Nat.zero_le _, rfl, rfl, fun j hj => absurd hj (Nat.not_lt_zero _)⟩
  case round =>
    obtain ⟨k, hk, rfl, hw, hall⟩ := hrel
    subst hw
    have HA : Hid _ := hall
    clear hall
    by_cases hlt : k < n
    · have d := HK.out k hlt
      by_cases e : κ k = 19
      · have e1 : (κ k != 19) = false := by simpa using e
        have e2 : (κ k == 19) = true := by simpa using e
        have E : Hid (κ k = 19) := e
        clear e
        go_wp2
        exact ⟨⟨k + 1, by omega, by go_num, (by first | rfl | trivial), fun j hj => by rcases Nat.lt_succ_iff_lt_or_eq.1 hj with h | rfl; exact HA.out j h; exact E.out⟩, by simp [intOf]; omega⟩
      · have e1 : (κ k != 19) = true := by simpa using e
        have e2 : (κ k == 19) = false := by simpa using e
        have E : Hid (¬ κ k = 19) := e
        clear e
        go_wp2
        go_ret
        exact ⟨ret_bool (by unfold allT; exact (decide_eq_false (fun g => E.out (g k hlt))).symm), rfl⟩
    · have ek : k = n := by omega
      go_wp2
      go_ret
      exact ⟨ret_bool (by unfold allT; exact (decide_eq_true (fun i hi => HA.out i (by omega))).symm), rfl⟩
set_option maxHeartbeats 1000000 in
theorem integers_of (a : Option Addr) (n cap : Nat) (κ : Nat → Int) (w : World) (hk : ∀ b, a = some b → KsAt w b n κ) (ha : a = none → n = 0) (hn : n < 1000000) :
    Calls Tryz.prog 107 #[.slice a n cap] w fun e w' => e = .returned (.bool (allI n κ)) ∧ w' = w := by
  have HK : Hid (∀ b, a = some b → KsAt w b n κ) := hk
  have HA0 : Hid (a = none → n = 0) := ha
  clear hk ha
  go_enter Tryz.func107, Tryz.ntmps107
  go_wp2
  go_loopw [7] (fun i wr => ∃ k : Nat, k ≤ n ∧ i = .int .i64 k ∧ wr = w ∧ ∀ j, j < k → intK (κ j) = true) (fun i _ => n - (intOf i).toNat)
  case atStart => exact ⟨0, Nat.zero_le _, rfl, rfl, fun j hj => absurd hj (Nat.not_lt_zero _)⟩
  case round =>
    obtain ⟨k, hk, rfl, hw, hall⟩ := hrel
    subst hw
    have HA : Hid _ := hall
    clear hall
    by_cases hlt : k < n
    · obtain ⟨b, rfl⟩ : ∃ b, a = some b := by
        cases a with
        | none => have := HA0.out rfl; omega
        | some b => exact ⟨b, rfl⟩
      have d := HK.out b rfl k hlt
      cases e : intK (κ k)
      · have E : Hid (intK (κ k) = false) := e
        clear e
        go_wp2_with (first | (go_at_call 93; refine (sInteger_is _ _ false E.out).mono ?_; rintro e w1 ⟨rfl, rfl⟩))
        go_ret
        exact ⟨ret_bool (by unfold allI; exact (decide_eq_false (fun g => by have := g k hlt; rw [E.out] at this; cases this)).symm), rfl⟩
      · have E : Hid (intK (κ k) = true) := e
        clear e
        go_wp2_with (first | (go_at_call 93; refine (sInteger_is _ _ true E.out).mono ?_; rintro e w1 ⟨rfl, rfl⟩))
        exact ⟨⟨k + 1, by omega, by go_num, (by first | rfl | trivial), fun j hj => by rcases Nat.lt_succ_iff_lt_or_eq.1 hj with h | rfl; exact HA.out j h; exact E.out⟩, by simp [intOf]; omega⟩
    · have ek : k = n := by omega
      go_wp2
      go_ret
      exact ⟨ret_bool (by unfold allI; exact (decide_eq_true (fun i hi => HA.out i (by omega))).symm), rfl⟩
theorem texts_is (a : Addr) (n cap : Nat) (κ : Nat → Int) (w : World) (p : Bool) (hk : KsAt w a n κ) (hn : n < 1000000) (hp : allT n κ = p) :
    Calls Tryz.prog 106 #[.slice (some a) n cap] w fun e w' => e = .returned (.bool p) ∧ w' = w := by subst hp; exact texts_of a n cap κ w hk hn
theorem integers_is (a : Addr) (n cap : Nat) (κ : Nat → Int) (w : World) (p : Bool) (hk : KsAt w a n κ) (hn : n < 1000000) (hp : allI n κ = p) :
    Calls Tryz.prog 107 #[.slice (some a) n cap] w fun e w' => e = .returned (.bool p) ∧ w' = w := by
  subst hp; exact integers_of (some a) n cap κ w (fun b e => by cases e; exact hk) (fun e => by cases e) hn
set_option maxHeartbeats 1000000 in
theorem oneText_of (gv : Int) (hg : 0 ≤ gv ∧ gv < 256) (g n cap : Nat) (κ : Nat → Int) (w : World) (hk : KsAt w ⟨g, 0, none⟩ n κ) (hn : n < 1000000) (h2 : 2 ≤ n) (hc : n ≤ cap) (p q : Bool) (hp : allT 1 κ = p) (hq : allI (n - 1) (fun i => κ (1 + i)) = q) :
    Calls Tryz.prog 55 #[.int .i64 gv, .slice (some ⟨g, 0, none⟩) n cap] w fun e w' => e = .returned (.int .u8 (gvK gv (p && q))) ∧ Below w.heap.size w w' := by
  have T : Hid (∀ (W : World) c, Below w.heap.size w W → Calls Tryz.prog 106 #[.slice (some ⟨g, 0, none⟩) 1 c] W fun e w' => e = .returned (.bool p) ∧ w' = W) := fun W c hb => texts_is _ 1 c κ W p ((hk.less (by omega)).below hb) (by omega) hp
  have I : Hid (∀ (W : World) c, Below w.heap.size w W → Calls Tryz.prog 107 #[.slice (some ⟨g, 1, none⟩) (n - 1) c] W fun e w' => e = .returned (.bool q) ∧ w' = W) := fun W c hb => integers_is _ (n - 1) c _ W q (by have := (hk.shift (m := n - 1) 1 (by omega) (by omega)).below hb; simpa using this) (by omega) hq
  clear hk hp hq
  have e1 : (1 : Int) ≤ n := by omega
  have e2 : (n : Int) ≤ cap := by omega
  cases p <;> cases q
  all_goals
    go_enter Tryz.func55, Tryz.ntmps55
    go_wp2_with (first | (go_at_call 106; refine (T.out _ _ (Below.refl _ _)).mono ?_; rintro e w1 ⟨rfl, h1⟩; subst h1) | (go_at_call 107; refine (I.out _ _ (Below.refl _ _)).mono ?_; rintro e w2 ⟨rfl, h2⟩; subst h2) | (go_at_call 90; refine (given_of _ _ _).mono ?_; rintro e w3 ⟨rfl, h3⟩; subst h3))
    go_ret
    exact ⟨by simp, Below.refl _ _⟩
set_option maxHeartbeats 1000000 in
theorem twoTexts_of (gv : Int) (hg : 0 ≤ gv ∧ gv < 256) (g n cap : Nat) (κ : Nat → Int) (w : World) (hk : KsAt w ⟨g, 0, none⟩ n κ) (hn : n < 1000000) (h2 : 3 ≤ n) (hc : n ≤ cap) (p q : Bool) (hp : allT 2 κ = p) (hq : allI (n - 2) (fun i => κ (2 + i)) = q) :
    Calls Tryz.prog 62 #[.int .i64 gv, .slice (some ⟨g, 0, none⟩) n cap] w fun e w' => e = .returned (.int .u8 (gvK gv (p && q))) ∧ Below w.heap.size w w' := by
  have T : Hid (∀ (W : World) c, Below w.heap.size w W → Calls Tryz.prog 106 #[.slice (some ⟨g, 0, none⟩) 2 c] W fun e w' => e = .returned (.bool p) ∧ w' = W) := fun W c hb => texts_is _ 2 c κ W p ((hk.less (by omega)).below hb) (by omega) hp
  have I : Hid (∀ (W : World) c, Below w.heap.size w W → Calls Tryz.prog 107 #[.slice (some ⟨g, 2, none⟩) (n - 2) c] W fun e w' => e = .returned (.bool q) ∧ w' = W) := fun W c hb => integers_is _ (n - 2) c _ W q (by have := (hk.shift (m := n - 2) 2 (by omega) (by omega)).below hb; simpa using this) (by omega) hq
  clear hk hp hq
  have e1 : (2 : Int) ≤ n := by omega
  have e2 : (n : Int) ≤ cap := by omega
  cases p <;> cases q
  all_goals
    go_enter Tryz.func62, Tryz.ntmps62
    go_wp2_with (first | (go_at_call 106; refine (T.out _ _ (Below.refl _ _)).mono ?_; rintro e w1 ⟨rfl, h1⟩; subst h1) | (go_at_call 107; refine (I.out _ _ (Below.refl _ _)).mono ?_; rintro e w2 ⟨rfl, h2⟩; subst h2) | (go_at_call 90; refine (given_of _ _ _).mono ?_; rintro e w3 ⟨rfl, h3⟩; subst h3))
    go_ret
    exact ⟨by simp, Below.refl _ _⟩
set_option maxHeartbeats 1000000 in
theorem allTexts_of (gv : Int) (hg : 0 ≤ gv ∧ gv < 256) (g n cap : Nat) (κ : Nat → Int) (w : World) (hk : KsAt w ⟨g, 0, none⟩ n κ) (hn : n < 1000000) :
    Calls Tryz.prog 60 #[.int .i64 gv, .slice (some ⟨g, 0, none⟩) n cap] w fun e w' => e = .returned (.int .u8 (gvK gv (allT n κ))) ∧ Below w.heap.size w w' := by
  have T : Hid (∀ (W : World) c, Below w.heap.size w W → Calls Tryz.prog 106 #[.slice (some ⟨g, 0, none⟩) n c] W fun e w' => e = .returned (.bool (allT n κ)) ∧ w' = W) := fun W c hb => texts_of _ n c κ W (hk.below hb) (by omega)
  clear hk
  go_enter Tryz.func60, Tryz.ntmps60
  go_wp2_with (first | (go_at_call 106; refine (T.out _ _ (Below.refl _ _)).mono ?_; rintro e w1 ⟨rfl, h1⟩; subst h1) | (go_at_call 90; refine (given_of _ _ _).mono ?_; rintro e w3 ⟨rfl, h3⟩; subst h3))
  go_ret
  exact ⟨rfl, Below.refl _ _⟩
end Go.Proofs.YtpaibmganlaaeaaGreatDoor
namespace Go.Proofs.YtpaibmganlaaeaaGreatDoor
set_option linter.unusedVariables false
open Go.RowKit
set_option maxHeartbeats 400000 in
theorem order_raw (p q : Bool) (a b : Int) (w : World) :
    Calls Tryz.prog 178 #[.agg #[.bool p, .int .u64 a], .agg #[.bool q, .int .u64 b]] w fun e w' =>
      e = .returned (.int .i64 (if p && !q then -1 else if q && !p then 1 else if p then cmpI b a else cmpI a b)) ∧ Below w.heap.size w w' := by
  cases p <;> cases q
  all_goals
    go_enter Tryz.func178, Tryz.ntmps178
    go_wp2_with (first | (go_at_call 189; refine (Compare_of _ _ _).mono ?_; rintro e w1 ⟨rfl, rfl⟩))
    go_ret
    exact ⟨ret_int (by simp), ((Below.refl _ _).alloc (Nat.le_refl _) _).alloc (by simp) _⟩
theorem order_of (a b : Int) (w : World) :
    Calls Tryz.prog 178 #[NB a, NB b] w fun e w' => e = .returned (.int .i64 (cmpI a b)) ∧ Below w.heap.size w w' := by
  refine (order_raw (decide (a < 0)) (decide (b < 0)) a.natAbs b.natAbs w).mono ?_
  rintro e w' ⟨rfl, hb⟩
  refine ⟨ret_int ?_, hb⟩
  by_cases ha : a < 0 <;> by_cases hb : b < 0 <;> simp only [ha, hb, decide_true, decide_false, Bool.not_true, Bool.not_false, Bool.and_true, Bool.and_false, if_true, if_false, Bool.false_eq_true] <;> unfold cmpI <;> (repeat' split) <;> omega
end Go.Proofs.YtpaibmganlaaeaaGreatDoor
namespace Go.Proofs.YtpaibmganlaaeaaGreatDoor
set_option linter.unusedVariables false
open Go.RowKit
abbrev E0 : ByteArray := ⟨#[]⟩
/-- A value and a fault: the value of that kind with those bits, or none and the fault. -/
abbrev RV (ok : Bool) (k b fault : Int) : Value := .tuple #[if ok then V k b E0 else V 0 0 E0, .int .i64 (if ok then 0 else fault)]
theorem RV_t {k b fault : Int} {ok : Bool} (h : ok = true) : Ending.returned (.tuple #[V k b E0, .int .i64 0]) = .returned (RV ok k b fault) := by simp [RV, h]
theorem RV_f {k b fault : Int} {ok : Bool} (h : ok = false) : Ending.returned (.tuple #[V 0 0 E0, .int .i64 fault]) = .returned (RV ok k b fault) := by simp [RV, h]
set_option maxHeartbeats 400000 in
theorem made_of (k b fault : Int) (w : World) (h0 : 0 ≤ b) (h1 : b < 18446744073709551616) (hk : 0 ≤ k ∧ k < 256) :
    Calls Tryz.prog 174 #[.int .u8 k, .int .u64 b, .int .i64 fault] w fun e w' => e = .returned (RV (mayW k b) k b fault) ∧ Below w.heap.size w w' := by
  cases c : mayW k b
  · go_enter Tryz.func174, Tryz.ntmps174
    go_wp2_with (first | (go_at_call 9; refine (may_of _ _ _ h0 h1 hk).mono ?_; rintro e w' ⟨rfl, rfl⟩))
    exact bodyPost_ret (v := .tuple #[V 0 0 E0, .int .i64 fault]) (by simp [results, Tryz.results174, go_sem]) rfl ⟨RV_f rfl, (Below.refl _ _).alloc (Nat.le_refl _) _⟩
  · go_enter Tryz.func174, Tryz.ntmps174
    go_wp2_with (first | (go_at_call 9; refine (may_of _ _ _ h0 h1 hk).mono ?_; rintro e w' ⟨rfl, rfl⟩))
    exact bodyPost_ret (v := .tuple #[V k b E0, .int .i64 0]) (by simp [results, Tryz.results174, go_sem]) rfl ⟨RV_t rfl, (Below.refl _ _).alloc (Nat.le_refl _) _⟩
/-- A number told by a sign and a size. -/
def sgn (below : Bool) (size : Int) : Int := if below then -size else size
theorem ret_NB {p : Bool} {a n : Int} (h : p = decide (n < 0)) (g : a = n.natAbs) : Ending.returned (.agg #[.bool p, .int .u64 a]) = .returned (NB n) := by rw [h, g]
set_option maxHeartbeats 400000 in
theorem signed_of (p : Bool) (a : Int) (w : World) (h0 : 0 ≤ a) :
    Calls Tryz.prog 160 #[.bool p, .int .u64 a] w fun e w' => e = .returned (NB (sgn p a)) ∧ Below w.heap.size w w' := by
  cases p
  · go_enter Tryz.func160, Tryz.ntmps160
    go_wp2
    exact bodyPost_ret (v := .agg #[.bool false, .int .u64 a]) (by simp [results, Tryz.results160, go_sem]) rfl ⟨NB_pos _ h0, (Below.refl _ _).alloc (Nat.le_refl _) _⟩
  · go_enter Tryz.func160, Tryz.ntmps160
    go_wp2
    exact bodyPost_ret (v := .agg #[.bool (a != 0), .int .u64 a]) (by simp [results, Tryz.results160, go_sem]) rfl ⟨ret_NB (by rw [Bool.eq_iff_iff]; simp [sgn]; omega) (by simp [sgn]; omega), (Below.refl _ _).alloc (Nat.le_refl _) _⟩
theorem sgn_not (n : Int) : sgn (!decide (n < 0)) n.natAbs = -n := by
  unfold sgn; by_cases h : n < 0
  · simp [h]; omega
  · simp [h]; omega
set_option maxHeartbeats 400000 in
theorem opposite_of (n : Int) (w : World) :
    Calls Tryz.prog 132 #[NB n] w fun e w' => e = .returned (NB (-n)) ∧ Below w.heap.size w w' := by
  have R : Hid (sgn (!decide (n < 0)) n.natAbs = -n) := sgn_not n
  go_enter Tryz.func132, Tryz.ntmps132
  go_wp2_with (first | (go_at_call 160; refine (signed_of _ _ _ (by omega)).mono ?_; rw [R.out]; rintro e w1 ⟨rfl, hb⟩; obtain ⟨hc, hf⟩ := bcell hb))
  exact bodyPost_ret (v := NB (-n)) (by simp [results, Tryz.results132, go_sem, hc]) rfl ⟨rfl, below_two hb⟩
end Go.Proofs.YtpaibmganlaaeaaGreatDoor
