/- The document's Step: names and numbers in two rows; no statement of the seat is proved here. -/
import Derived.Test.YtjnegbjgogkamaaDoorRfK
import Derived.Test.YtjnegbjgogkamaaDoorRfB
import Derived.Test.YtjnegbjgogkamaaDoorRgL
import Derived.Test.YtjnegbjgogkamaaDoorBlkW
import Derived.Test.YtjnegbjgogkamaaDoorBlkY
import Derived.Deep.RegionLaw
namespace Go.Proofs.YtjnegbjgogkamaaDoor
set_option linter.unusedVariables false
open Go.RowKit
/-- Names and kinds of variables in memory. -/
def VNK (w : World) (g n : Nat) (L : List ByteArray) (ks : ByteArray) : Prop := ∀ i, i < n → w.cell? ⟨g, i * 16, none⟩ = some (.string (L.getD i ⟨#[]⟩)) ∧ w.cell? ⟨g, i * 16 + 3, none⟩ = some (.int .u8 (kAt ks i))
theorem VNK.below {w w' : World} {g n : Nat} {L : List ByteArray} {ks : ByteArray} (h : VNK w g n L ks) {B : Nat} (hg : g < B) (hb : Below B w w') : VNK w' g n L ks := by
  intro i hi
  obtain ⟨h1, h2⟩ := h i hi
  exact ⟨(World.cell?_of_block (w := w) (a := ⟨g, i * 16, none⟩) (hb.block g hg)).trans h1, (World.cell?_of_block (w := w) (a := ⟨g, i * 16 + 3, none⟩) (hb.block g hg)).trans h2⟩
/-- The first names, and the first numbers. -/
def nmsL (L : List ByteArray) (k : Nat) : List Value := (List.range k).map fun i => .string (L.getD i ⟨#[]⟩)
def ntsL (v : Nat → Vl) (k : Nat) : List Value := (List.range k).map fun i => .int .i64 (nmV (v i).k (v i).b)
theorem nmsL_succ (L : List ByteArray) (k : Nat) : nmsL L (k + 1) = nmsL L k ++ [.string (L.getD k ⟨#[]⟩)] := by
  unfold nmsL; rw [List.range_succ, List.map_append]; simp
theorem ntsL_succ (v : Nat → Vl) (k : Nat) : ntsL v (k + 1) = ntsL v k ++ [.int .i64 (nmV (v k).k (v k).b)] := by
  unfold ntsL; rw [List.range_succ, List.map_append]; simp
theorem own_names {w : World} {base n : Nat} {x : Value} {L : List ByteArray} (h : w.ownsRow base 9 1 x n (nmsL L n)) (hn : 0 < n) (hL : L.length = n) :
    ∃ g cap, x = .slice (some ⟨g, 0, none⟩) n cap ∧ base ≤ g ∧ SmAt w g L ∧ ∃ A, w.heap[g]? = some (.cells A 9 (0, 0)) := by
  obtain ⟨h1, h2⟩ := h
  rcases h2 with ⟨_, e⟩ | ⟨g, cap, cur, e, hb, hg, hc, hm, hs, ht⟩
  · omega
  · refine ⟨g, cap, e, hb, fun i nm hi => ?_, cur, hg⟩
    have il : i < n := by rw [← hL]; exact (List.getElem?_eq_some_iff.1 hi).1
    have f : (nmsL L n)[i]? = some (.string nm) := by
      unfold nmsL; simp [il, List.getD_eq_getElem?_getD, hi]
    rw [← ht, List.getElem?_take_of_lt (by omega)] at f
    simp only [World.cell?, hg]
    simpa using f
theorem own_nums {w : World} {base n : Nat} {x : Value} {v : Nat → Vl} (h : w.ownsRow base 3 1 x n (ntsL v n)) (hn : 0 < n) :
    ∃ g cap, x = .slice (some ⟨g, 0, none⟩) n cap ∧ base ≤ g ∧ RBk w g (nmL n v) := by
  obtain ⟨h1, h2⟩ := h
  rcases h2 with ⟨_, e⟩ | ⟨g, cap, cur, e, hb, hg, hc, hm, hs, ht⟩
  · omega
  · refine ⟨g, cap, e, hb, cur.toList.drop (n * 1), ?_⟩
    rw [hg]
    have e1 : (nmL n v).map (Value.int .i64) = ntsL v n := by unfold nmL ntsL; rw [List.map_map]; rfl
    rw [e1, ← ht, List.take_append_drop]
theorem wrap_nm {k b : Int} {s : ByteArray} (h0 : 0 ≤ b) (c : may3 k b s = true) (d : K3 k) : wrap64 b = nmV k b := by
  rcases d with rfl | rfl | rfl
  · have m : b ≤ 1 := by
      have := c; unfold may3 at this; simp [mayW] at this; omega
    unfold nmV wrap64; simp; omega
  · rfl
  · rfl
theorem nxt_len3 (K z a b c : Int) : (nxt K z [a, b, c]).length = 3 := by
  simp only [nxt]; (repeat' split) <;> rfl
theorem nxt_len6 (K z a b c d e f : Int) : (nxt K z [a, b, c, d, e, f]).length = 6 := by
  simp only [nxt]; (repeat' split) <;> rfl
theorem nxt_len10 (K z a b c d e f g h i j : Int) : (nxt K z [a, b, c, d, e, f, g, h, i, j]).length = 10 := rfl
theorem own_form {w : World} {base : Nat} {e : TypeId} {size : Nat} {x : Value} {n : Nat} {xs : List Value} (h : w.ownsRow base e size x (n + 1) xs) : ∃ g c, x = .slice (some ⟨g, 0, none⟩) (n + 1) c := by
  obtain ⟨_, h2⟩ := h
  rcases h2 with ⟨_, e⟩ | ⟨g, cap, cur, e, _⟩
  · omega
  · exact ⟨g, cap, e⟩
theorem ownsRow_keep {w w' : World} {base : Nat} {e : TypeId} {size : Nat} {x : Value} {n : Nat} {xs : List Value} (h : w.ownsRow base e size x n xs) (hb : ∀ g, x.ownBlock = some g → w'.heap[g]? = w.heap[g]?) : w'.ownsRow base e size x n xs := by
  obtain ⟨h1, h2⟩ := h
  refine ⟨h1, ?_⟩
  rcases h2 with h2 | ⟨g, cap, cur, hv, hg, hh, r⟩
  · exact .inl h2
  · exact .inr ⟨g, cap, cur, hv, hg, (hb g (by rw [hv]; rfl)).trans hh, r⟩
theorem own_cells {w : World} {base : Nat} {e : TypeId} {size : Nat} {x : Value} {n : Nat} {xs : List Value} {g : Nat} (h : w.ownsRow base e size x n xs) (hg : x.ownBlock = some g) : ∃ A, w.heap[g]? = some (.cells A e (0, 0)) := by
  obtain ⟨_, h2⟩ := h
  rcases h2 with ⟨rfl, _⟩ | ⟨g', cap, cur, rfl, hb, hh, _⟩
  · simp [Value.ownBlock] at hg
  · simp [Value.ownBlock] at hg; subst hg; exact ⟨_, hh⟩
/-- The names' row has grown: what else there is stays. -/
theorem grow_keep {w w' : World} {base : Nat} {e t : TypeId} {size sz : Nat} {x y : Value} {n m : Nat} {xs ys : List Value} (hx : w.ownsRow base e size x n xs) (hy : w.ownsRow base t sz y m ys) (ne : e ≠ t) (hg : w.grownBy w' x.ownBlock) : w'.ownsRow base t sz y m ys :=
  ownsRow_keep hy fun g e' => by
    obtain ⟨A, hA⟩ := own_cells hy e'
    exact hg.block g (lt_of_block hA) (fun h => own_type hx hA ne h.symm)
theorem set_keep {w : World} {base : Nat} {e t : TypeId} {size : Nat} {x : Value} {n : Nat} {xs : List Value} {b o : Nat} {A : Array Value} (u : Value) (hx : w.ownsRow base e size x n xs) (hb : w.heap[b]? = some (.cells A t (0, 0))) (ne : e ≠ t) : (w.setCell ⟨b, o, none⟩ u).ownsRow base e size x n xs :=
  ownsRow_keep hx fun g e' => by
    have : g ≠ b := fun h => own_type hx hb ne (by rw [← h]; exact e')
    exact Below.heap_setCell _ _ _ _ this
/-- A row's box and both rows, behind a round's first half or second. -/
structure Rws (w1 W : World) (b : Nat) (vN vI : Value) (k j : Nat) (L : List ByteArray) (v : Nat → Vl) : Prop where
  bx : W.heap[b]? = some (.cells #[vN, vI] 71 (0, 0))
  nm : W.ownsRow w1.heap.size 9 1 vN k (nmsL L k)
  nt : W.ownsRow w1.heap.size 3 1 vI j (ntsL v j)
  bl : Below w1.heap.size w1 W
  bb : w1.heap.size ≤ b
theorem Rws.below {w1 W W' : World} {b : Nat} {vN vI : Value} {k j : Nat} {L : List ByteArray} {v : Nat → Vl} (h : Rws w1 W b vN vI k j L v) (hb : Below W.heap.size W W') : Rws w1 W' b vN vI k j L v :=
  ⟨(hb.block b (lt_of_block h.bx)).trans h.bx, ownsRow_below h.nm hb, ownsRow_below h.nt hb, h.bl.trans (hb.mono h.bl.size), h.bb⟩
theorem Rws.c0 {w1 W : World} {b : Nat} {vN vI : Value} {k j : Nat} {L : List ByteArray} {v : Nat → Vl} (h : Rws w1 W b vN vI k j L v) : W.cell? ⟨b, 0, none⟩ = some vN := by simp [World.cell?, h.bx]
theorem Rws.c1 {w1 W : World} {b : Nat} {vN vI : Value} {k j : Nat} {L : List ByteArray} {v : Nat → Vl} (h : Rws w1 W b vN vI k j L v) : W.cell? ⟨b, 1, none⟩ = some vI := by simp [World.cell?, h.bx]
theorem Rws.free {w1 W : World} {b : Nat} {vN vI : Value} {k j : Nat} {L : List ByteArray} {v : Nat → Vl} (h : Rws w1 W b vN vI k j L v) (o : Nat) : W.frozen? ⟨b, o, none⟩ = false := by simp [World.frozen?, h.bx]
/-- A name more: the row, and the box. -/
theorem Rws.name {w1 W W' : World} {b : Nat} {vN vI v' : Value} {k j : Nat} {L : List ByteArray} {v : Nat → Vl} (h : Rws w1 W b vN vI k j L v) (hg : W.grownBy W' vN.ownBlock) (ho : W'.ownsRow w1.heap.size 9 1 v' (k + 1) (nmsL L (k + 1))) :
    W'.heap[b]? = some (.cells #[vN, vI] 71 (0, 0)) ∧ Rws w1 (W'.setCell ⟨b, 0, none⟩ v') b v' vI (k + 1) j L v := by
  have hX : W'.heap[b]? = some (.cells #[vN, vI] 71 (0, 0)) := (hg.block b (lt_of_block h.bx) (fun e => own_type h.nm h.bx (by decide) e.symm)).trans h.bx
  have hs := heap_setCell_same W' b 0 #[vN, vI] 71 v' hX
  refine ⟨hX, hs, set_keep v' ho hX (by decide), set_keep v' (grow_keep h.nm h.nt (by decide) hg) hX (by decide), ?_, h.bb⟩
  have hbb := h.bb
  have B := h.bl.grown hg h.bl.size (fun g e => own_blk h.nm e)
  exact ⟨B.os, B.tape, B.output, by have := B.size; simpa [World.setCell] using this, fun q hq => by rw [Below.heap_setCell _ _ _ _ (show q ≠ b by omega)]; exact B.block q hq⟩
/-- A number more: the row, and the box. -/
theorem Rws.num {w1 W W' : World} {b : Nat} {vN vI v' : Value} {k j : Nat} {L : List ByteArray} {v : Nat → Vl} (h : Rws w1 W b vN vI k j L v) (hg : W.grownBy W' vI.ownBlock) (ho : W'.ownsRow w1.heap.size 3 1 v' (j + 1) (ntsL v (j + 1))) :
    W'.heap[b]? = some (.cells #[vN, vI] 71 (0, 0)) ∧ Rws w1 (W'.setCell ⟨b, 1, none⟩ v') b vN v' k (j + 1) L v := by
  have hX : W'.heap[b]? = some (.cells #[vN, vI] 71 (0, 0)) := (hg.block b (lt_of_block h.bx) (fun e => own_type h.nt h.bx (by decide) e.symm)).trans h.bx
  have hs := heap_setCell_same W' b 1 #[vN, vI] 71 v' hX
  refine ⟨hX, hs, set_keep v' (grow_keep h.nt h.nm (by decide) hg) hX (by decide), set_keep v' ho hX (by decide), ?_, h.bb⟩
  have hbb := h.bb
  have B := h.bl.grown hg h.bl.size (fun g e => own_blk h.nt e)
  exact ⟨B.os, B.tape, B.output, by have := B.size; simpa [World.setCell] using this, fun q hq => by rw [Below.heap_setCell _ _ _ _ (show q ≠ b by omega)]; exact B.block q hq⟩
end Go.Proofs.YtjnegbjgogkamaaDoor
