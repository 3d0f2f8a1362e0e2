/- Values copied: slices.Clone, copy, and a step of the statements; no statement of the seat is proved here. -/
import Derived.Test.YtjnegbjgogkamaaDoorBlkV
import Derived.Laws.CopyOwn
import Derived.OwnWalk
import Derived.Handy
namespace Go.Proofs.YtjnegbjgogkamaaDoor
set_option linter.unusedVariables false
open Go.RowKit
/-- The cells of values, one behind the other. -/
def flV (n : Nat) (v : Nat → Vl) : List Value := (List.range n).flatMap fun i => [.int .u8 (v i).k, .int .u64 (v i).b, .string (v i).s]
theorem flV_succ (n : Nat) (v : Nat → Vl) : flV (n + 1) v = flV n v ++ [.int .u8 (v n).k, .int .u64 (v n).b, .string (v n).s] := by
  unfold flV; rw [List.range_succ, List.flatMap_append]; simp
theorem flV_len (n : Nat) (v : Nat → Vl) : (flV n v).length = n * 3 := by
  induction n with
  | zero => rfl
  | succ n ih => rw [flV_succ, List.length_append, ih]; simp; omega
theorem flV_at (n : Nat) (v : Nat → Vl) (i : Nat) (hi : i < n) : (flV n v)[i * 3]? = some (.int .u8 (v i).k) ∧ (flV n v)[i * 3 + 1]? = some (.int .u64 (v i).b) ∧ (flV n v)[i * 3 + 2]? = some (.string (v i).s) := by
  induction n with
  | zero => omega
  | succ n ih =>
    have l := flV_len n v
    rw [flV_succ]
    by_cases h : i < n
    · obtain ⟨a, b, c⟩ := ih h
      exact ⟨by rw [List.getElem?_append_left (by omega)]; exact a, by rw [List.getElem?_append_left (by omega)]; exact b, by rw [List.getElem?_append_left (by omega)]; exact c⟩
    · have e : i = n := by omega
      subst e
      exact ⟨by rw [List.getElem?_append_right (by omega), l]; simp, by rw [List.getElem?_append_right (by omega), l]; simp, by rw [List.getElem?_append_right (by omega), l]; simp⟩
theorem flV_one (n : Nat) (v : Nat → Vl) : ∀ u ∈ flV n v, u.oneCell' = true := by
  intro u hu
  unfold flV at hu
  obtain ⟨i, _, h⟩ := List.mem_flatMap.1 hu
  simp at h
  rcases h with rfl | rfl | rfl <;> rfl
theorem add_off (a : Addr) (i j : Nat) : (a.add i).add j = a.add (i + j) := by
  unfold Addr.add
  by_cases hi : i = 0 <;> by_cases hj : j = 0 <;> simp [hi, hj, Nat.add_assoc]
theorem add_pos (a : Addr) (j : Nat) (h : 0 < j) : a.add j = ⟨a.block, a.off + j, none⟩ := by
  unfold Addr.add; rw [if_neg (by omega)]
theorem flV_src {w : World} {a : Addr} {n : Nat} {v : Nat → Vl} (h : VsAt w a n v) : ∀ j u, (flV n v)[j]? = some u → w.cell? (a.add j) = some u := by
  intro j u hu
  have hj : j < (flV n v).length := by
    rcases Nat.lt_or_ge j (flV n v).length with g | g
    · exact g
    · rw [List.getElem?_eq_none g] at hu; cases hu
  rw [flV_len] at hj
  obtain ⟨q, r, e, hr⟩ : ∃ q r, j = q * 3 + r ∧ r < 3 := ⟨j / 3, j % 3, by omega, by omega⟩
  subst e
  obtain ⟨h0, h1, h2⟩ := h q (by omega)
  obtain ⟨f0, f1, f2⟩ := flV_at n v q (by omega)
  have c : r = 0 ∨ r = 1 ∨ r = 2 := by omega
  rcases c with rfl | rfl | rfl
  · rw [Nat.add_zero, f0] at hu; cases hu
    rw [Nat.add_zero]; exact h0
  · rw [f1] at hu; cases hu
    rw [← add_off, add_pos _ 1 (by omega)]; exact h1
  · rw [f2] at hu; cases hu
    rw [← add_off, add_pos _ 2 (by omega)]; exact h2
theorem row_take {A : Array Value} {n : Nat} {v : Nat → Vl} (h : A.toList.take (n * 3) = flV n v) (i : Nat) (hi : i < n) : A[i * 3]? = some (.int .u8 (v i).k) ∧ A[i * 3 + 1]? = some (.int .u64 (v i).b) ∧ A[i * 3 + 2]? = some (.string (v i).s) := by
  obtain ⟨a, b, c⟩ := flV_at n v i hi
  rw [← h] at a b c
  rw [List.getElem?_take_of_lt (by omega)] at a b c
  exact ⟨by simpa using a, by simpa using b, by simpa using c⟩
/-- What a slice that this call made holds. -/
theorem own_row {w : World} {base n : Nat} {x : Value} {v : Nat → Vl} (h : w.ownsRow base 34 3 x n (flV n v)) (hn : 0 < n) : ∃ g cap, x = .slice (some ⟨g, 0, none⟩) n cap ∧ base ≤ g ∧ Row3 w g n v := by
  obtain ⟨h1, h2⟩ := h
  rcases h2 with ⟨_, e⟩ | ⟨g, cap, cur, e, hb, hg, hc, hm, hs, ht⟩
  · omega
  · exact ⟨g, cap, e, hb, cur, hg, by rw [hs]; exact Nat.mul_le_mul_right 3 hc, fun i hi => row_take ht i hi⟩
theorem sl_nil (a : Addr) (n cap : Nat) (w : World) : (binOp .eql 30 (.slice (some a) n cap) (.slice none 0 0)).run Tryd.prog w = .ok (.bool false) w := by kernel_rfl
theorem own_none (w : World) : (w.alloc (.cells #[] 34)).ownsRow w.heap.size 34 3 (.slice (some ⟨w.heap.size, 0, none⟩) 0 0) 0 [] :=
  ⟨rfl, .inr ⟨w.heap.size, 0, #[], rfl, Nat.le_refl _, heap_alloc_last w _, Nat.le_refl _, Nat.zero_le _, rfl, rfl⟩⟩
set_option maxHeartbeats 1000000 in
theorem Clone_of (a : Addr) (n cap : Nat) (v : Nat → Vl) (w : World) (hv : VsAt w a n v) (hn : 0 < n) (hb : n * 32 ≤ 140737488355328) :
    Calls Tryd.prog 35 #[.slice (some a) n cap] w fun e w' => ∃ g c, e = .returned (.slice (some ⟨g, 0, none⟩) n c) ∧ w.heap.size ≤ g ∧ Row3 w' g n v ∧ Below w.heap.size w w' := by
  have HV : Hid (VsAt w a n v) := hv
  clear hv
  have sn := sl_nil a n cap
  have I : Hid (∃ i, Tryd.prog.info? 34 = some i ∧ i.zero = some (.agg #[.int .u8 0, .int .u64 0, .string ⟨#[]⟩]) ∧ i.size = 3 ∧ i.bytes = 32) := by
    obtain ⟨i, hi, hz⟩ := Option.map_eq_some_iff.1 (show (Tryd.prog.info? 34).map (fun i => (i.zero, i.size, i.bytes)) = some (some (.agg #[.int .u8 0, .int .u64 0, .string ⟨#[]⟩]), 3, 32) by kernel_rfl)
    simp only [Prod.mk.injEq] at hz
    exact ⟨i, hi, hz.1, hz.2.1, hz.2.2⟩
  go_enter Tryd.func35, Tryd.ntmps35
  go_wp2_with (at_builtin; obtain ⟨i, hi, hz, hs, hy⟩ := I.out; refine wpList_append_own _ rfl _ _ 30 rfl w.heap.size 34 i _ 3 32 Tryd.underlying30 hi hz hs hy rfl (by decide) _ 0 [] rfl (own_none w) a n cap (flV n v) rfl (flV_len n v) (flV_src (HV.out.below ((Below.refl _ _).alloc (Nat.le_refl _) _))) (flV_one n v) (by simp [maxLen]; omega) (by omega) (by simp) ?_; intro v' w' h1 h2 h3; rw [Nat.zero_add, List.nil_append] at h1; have H1 : Hid (w'.ownsRow w.heap.size 34 3 v' n (flV n v)) := h1; have H2 : Hid _ := h2; clear h1 h2 h3 hi hz hs hy)
  obtain ⟨g, c, rfl, hg, hr⟩ := own_row H1.out hn
  go_ret
  exact ⟨g, c, rfl, hg, hr, ((Below.refl _ _).alloc (Nat.le_refl _) _).grown H2.out (by simp) (fun k e => by cases e; exact Nat.le_refl _)⟩
theorem run_copy_sz {P : Program} (w : World) (dT sT ty elem : TypeId) (sz g dLen dCap : Nat) (a : Addr) (sLen sCap : Nat) (cur : Array Value) (t : TypeId) (cs : List Value)
    (hu : P.underlying dT = some (.slice elem)) (hs : (P.info? elem).map (·.size) = some sz)
    (hg : w.heap[g]? = some (.cells cur t (0, 0))) (hl : sLen ≤ dLen) (hn : cs.length = sLen * sz)
    (hsrc : ∀ j v, cs[j]? = some v → w.cell? (a.add j) = some v) (hfit : cs.length ≤ cur.size) (h1 : ∀ v ∈ cs, v.oneCell' = true) :
    (Builtin.copy_ #[dT, sT] ty #[.slice (some ⟨g, 0, none⟩) dLen dCap, .slice (some a) sLen sCap]).run P w =
      .ok (goInt sLen) (w.setRow g (cs ++ cur.toList.drop cs.length).toArray) := by
  have hl' := run_loadCells_list (P := P) w a cs hsrc
  have hst := run_storeCells_at P g 0 t cs 0 cur w hg (by simpa using hfit) h1
  have hm : min sLen dLen = sLen := Nat.min_eq_left hl
  cases hq : P.info? elem with
  | none => simp [hq] at hs
  | some i =>
    have hi : i.size = sz := by simpa [hq] using hs
    simp [Builtin.copy_, run_underlying hu, Builtin.lenOf, Builtin.firstCells, sizeOf, typeInfo, hq, hi, ← hn, hl', hst, hm]
theorem wpList_copy_sz {P : Program} {w : World} {ops : Array Oper} {rest : List Oper} {o : Oper} {a : Act} {Q : Exit → Act → World → Prop} (hgd : o.guard = none) (d s : Operand) (dT sT : TypeId)
    (ho : o.op = .call { callee := .builtin .copy, args := #[d, s], argTypes := #[dT, sT] }) (elem : TypeId) (sz : Nat) (hu : P.underlying dT = some (.slice elem)) (hsz : (P.info? elem).map (·.size) = some sz)
    (g dLen dCap : Nat) (ad : Addr) (sLen sCap : Nat) (hd : a.eval d = .slice (some ⟨g, 0, none⟩) dLen dCap) (hs : a.eval s = .slice (some ad) sLen sCap)
    (cur : Array Value) (t : TypeId) (hg : w.heap[g]? = some (.cells cur t (0, 0))) (cs : List Value) (hl : sLen ≤ dLen) (hn : cs.length = sLen * sz)
    (hsrc : ∀ j v, cs[j]? = some v → w.cell? (ad.add j) = some v) (hfit : cs.length ≤ cur.size) (h1 : ∀ v ∈ cs, v.oneCell' = true)
    (h : wpList P ops Q rest (a.put o.dst (goInt sLen)) (w.setRow g (cs ++ cur.toList.drop cs.length).toArray)) : wpList P ops Q (o :: rest) a w := by
  refine wpList_plain hgd fun K hK => ?_
  have hrun := run_copy_sz (P := P) w dT sT o.type elem sz g dLen dCap ad sLen sCap cur t cs hu hsz hg hl hn hsrc hfit h1
  unfold Oper.wp
  simp [execOp, ho, resolve, invoke, builtin, hd, hs, hrun, Result.andThen]
  exact hK _ _ h
/-- Values laid over the first ones of a row. -/
theorem Row3.over {w : World} {g n m : Nat} {v u : Nat → Vl} {cur : Array Value} (h1 : w.heap[g]? = some (.cells cur 34 (0, 0))) (h2 : n * 3 ≤ cur.size)
    (h3 : ∀ i, i < n → cur[i * 3]? = some (.int .u8 (v i).k) ∧ cur[i * 3 + 1]? = some (.int .u64 (v i).b) ∧ cur[i * 3 + 2]? = some (.string (v i).s)) (hm : m ≤ n) :
    Row3 (w.setRow g (flV m u ++ cur.toList.drop (flV m u).length).toArray) g n (fun i => if i < m then u i else v i) := by
  have l := flV_len m u
  refine ⟨_, setRow_heap w g cur _ _ _ h1, ?_, fun i hi => ?_⟩
  · simp [l]; omega
  · by_cases c : i < m
    · obtain ⟨a, b, d⟩ := flV_at m u i c
      simp only [if_pos c]
      refine ⟨?_, ?_, ?_⟩
      · rw [List.getElem?_toArray, List.getElem?_append_left (by omega)]; exact a
      · rw [List.getElem?_toArray, List.getElem?_append_left (by omega)]; exact b
      · rw [List.getElem?_toArray, List.getElem?_append_left (by omega)]; exact d
    · obtain ⟨a, b, d⟩ := h3 i hi
      simp only [if_neg c]
      refine ⟨?_, ?_, ?_⟩
      · rw [List.getElem?_toArray, List.getElem?_append_right (by omega), List.getElem?_drop, l, show m * 3 + (i * 3 - m * 3) = i * 3 by omega]; simpa using a
      · rw [List.getElem?_toArray, List.getElem?_append_right (by omega), List.getElem?_drop, l, show m * 3 + (i * 3 + 1 - m * 3) = i * 3 + 1 by omega]; simpa using b
      · rw [List.getElem?_toArray, List.getElem?_append_right (by omega), List.getElem?_drop, l, show m * 3 + (i * 3 + 2 - m * 3) = i * 3 + 2 by omega]; simpa using d
/-- A BOOL. -/
def bitV (p : Bool) : Vl := ⟨1, tN p, ⟨#[]⟩⟩
set_option maxHeartbeats 1000000 in
theorem bit_of (p : Bool) (w : World) : Calls Tryd.prog 23 #[.bool p] w fun e w' => e = .returned (V 1 (tN p) ⟨#[]⟩) ∧ Below w.heap.size w w' := by
  cases p
  all_goals
    go_enter Tryd.func23, Tryd.ntmps23
    go_wp2
    refine bodyPost_ret (v := V 1 (tN _) ⟨#[]⟩) (by simp [results, Tryd.results23, go_sem]; rfl) rfl ⟨rfl, ?_⟩
    go_grown
end Go.Proofs.YtjnegbjgogkamaaDoor
