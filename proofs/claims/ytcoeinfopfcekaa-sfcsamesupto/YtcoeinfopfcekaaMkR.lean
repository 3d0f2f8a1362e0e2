/- A drawn region whose first operations each make memory of their own, in whatever order; no statement of the seat is proved here. -/
import Derived.Test.YtcoeinfopfcekaaSubG
import Derived.Deep.RegionHeld3
namespace Go.Proofs.Ytcoeinfopfcekaa
set_option linter.unusedVariables false
open Go.RowKit
/-- An operation that makes memory: its number, the slot of its answer, and what is told of the blocks from lo up to hi, of the answer and of every later world. -/
structure Mkr where
  i : Nat
  d : Nat
  R : Nat → Nat → Value → World → Prop
def setAll (l : Array Bool) (ms : List Mkr) : Array Bool := ms.foldl (fun l m => l.setIfInBounds m.i true) l
def putAll (a : Act) (ms : List Mkr) (val : Nat → Value) : Act := ms.foldl (fun a m => a.put (some m.d) (val m.i)) a
theorem setAll_pick : ∀ (l1 l2 : List Mkr) (m : Mkr) (l : Array Bool), setAll l (l1 ++ m :: l2) = setAll (l.setIfInBounds m.i true) (l1 ++ l2)
  | [], l2, m, l => rfl
  | x :: l1, l2, m, l => by
    show setAll (l.setIfInBounds x.i true) (l1 ++ m :: l2) = setAll ((l.setIfInBounds m.i true).setIfInBounds x.i true) (l1 ++ l2)
    rw [setAll_pick l1 l2 m]
    congr 1
    by_cases h : x.i = m.i
    · rw [h]
    · rw [Array.setIfInBounds_comm _ _ h]
theorem put_comm (a : Act) (d e : Nat) (u v : Value) (h : d ≠ e) : (a.put (some d) u).put (some e) v = (a.put (some e) v).put (some d) u := by
  simp only [Act.put]
  rw [Array.setIfInBounds_comm _ _ h]
theorem putAll_pick (val : Nat → Value) : ∀ (l1 l2 : List Mkr) (m : Mkr) (a : Act), (∀ x ∈ l1, x.d ≠ m.d) → putAll a (l1 ++ m :: l2) val = putAll (a.put (some m.d) (val m.i)) (l1 ++ l2) val
  | [], l2, m, a, _ => rfl
  | x :: l1, l2, m, a, h => by
    show putAll (a.put (some x.d) (val x.i)) (l1 ++ m :: l2) val = putAll ((a.put (some m.d) (val m.i)).put (some x.d) (val x.i)) (l1 ++ l2) val
    rw [putAll_pick val l1 l2 m _ (fun y hy => h y (by simp [hy])), put_comm _ _ _ _ _ (h x (by simp))]
theorem putAll_congr {val val' : Nat → Value} : ∀ (ms : List Mkr) (a : Act), (∀ m ∈ ms, val m.i = val' m.i) → putAll a ms val = putAll a ms val'
  | [], _, _ => rfl
  | x :: ms, a, h => by
    show putAll (a.put (some x.d) (val x.i)) ms val = putAll (a.put (some x.d) (val' x.i)) ms val'
    rw [h x (by simp)]
    exact putAll_congr ms _ fun m hm => h m (by simp [hm])
/-- Whatever order they come up in, only these come up. -/
def rdyB (md : Region.Mode) (ops : Array Oper) : Nat → Array Bool → List Nat → Bool
  | 0, _, is => is.isEmpty
  | n + 1, l, is => is.isEmpty || (!(Region.ready md ops l).isEmpty && (Region.ready md ops l).all (fun i => is.contains i && rdyB md ops n (l.setIfInBounds i true) (is.erase i)))
section
variable {P : Program} {ops : Array Oper} {Q : Exit → Act → World → Prop} {md : Region.Mode} {S : World → Prop}
/-- A quiet operation is taken first; the slot of its answer is named. -/
theorem wpAnyH_takeD {i d : Nat} {oi : Oper} {v : Value} {fuel : Nat} {listed : Array Bool} {a : Act} {w : World} (hi : ops[i]? = some oi) (hd : (ops[i]?).bind (·.dst) = some d)
    (hs : Region.noSelect ops = true) (hf : Region.free md ops listed i = true) (hr : (Region.ready md ops listed).contains i = true)
    (hQ : ∀ c a w, Q (.panic c) (a.put oi.dst v) w → Q (.panic c) a w) (hy : YieldsIf P ops S oi v a) (hS : S w)
    (h : wpAnyH P md ops Q S fuel (listed.setIfInBounds i true) (a.put (some d) v) w) : wpAnyH P md ops Q S (fuel + 1) listed a w := by
  refine wpAnyH_take hi hs hf hr hQ hy hS ?_
  rw [hi] at hd
  have e : oi.dst = some d := hd
  rw [e]
  exact h
/-- What an operation does, wherever it comes up. -/
def Makes (P : Program) (ops : Array Oper) (Q : Exit → Act → World → Prop) (AG : Act → Prop) (W0 : World) (m : Mkr) : Prop :=
  ∀ (a : Act) (w : World) (K : Act → World → Prop), AG a → Below W0.heap.size W0 w → (∀ v w', Below w.heap.size w w' → m.R w.heap.size w'.heap.size v w' → K (a.put (some m.d) v) w') → wpOp P ops Q m.i K a w
theorem wpAnyH_mk (W0 : World) (hS : ∀ w, Below W0.heap.size W0 w → S w) (AG : Act → Prop) (f : Nat) : ∀ (n : Nat) (ms : List Mkr) (listed : Array Bool) (a : Act) (w : World),
    ms.length = n → (ms.map (·.d)).Nodup → (ms.map (·.i)).Nodup → rdyB md ops n listed (ms.map (·.i)) = true → AG a → (∀ a m v, AG a → m ∈ ms → AG (a.put (some m.d) v)) → Below W0.heap.size W0 w →
    (∀ m ∈ ms, Makes P ops Q AG W0 m) → (∀ m ∈ ms, ∀ lo hi v w w', m.R lo hi v w → Below w.heap.size w w' → m.R lo hi v w') →
    (∀ (val : Nat → Value) (lo hi : Nat → Nat) w', Below w.heap.size w w' → (∀ m ∈ ms, w.heap.size ≤ lo m.i ∧ lo m.i ≤ hi m.i ∧ hi m.i ≤ w'.heap.size ∧ m.R (lo m.i) (hi m.i) (val m.i) w') →
      (∀ m ∈ ms, ∀ m' ∈ ms, m.i ≠ m'.i → hi m.i ≤ lo m'.i ∨ hi m'.i ≤ lo m.i) → wpAnyH P md ops Q S f (setAll listed ms) (putAll a ms val) w') →
    wpAnyH P md ops Q S (n + f) listed a w := by
  intro n
  induction n with
  | zero =>
    intro ms listed a w hn _ _ _ _ _ _ _ _ fin
    have e : ms = [] := List.length_eq_zero_iff.1 hn
    subst e
    rw [Nat.zero_add]
    exact fin (fun _ => undef) (fun _ => 0) (fun _ => 0) w (Below.refl _ _) (fun m hm => by cases hm) (fun m hm => by cases hm)
  | succ n ih =>
    intro ms listed a w hn hd hi hr hA hcl hb hmk hmo fin
    rw [Nat.succ_add]
    have ne : ms.map (·.i) ≠ [] := fun e => by rw [List.map_eq_nil_iff] at e; rw [e] at hn; cases hn
    unfold rdyB at hr
    simp only [Bool.or_eq_true, List.isEmpty_iff, Bool.and_eq_true, Bool.not_eq_true', List.all_eq_true] at hr
    rcases hr with hr | ⟨hr0, hr1⟩
    · exact absurd hr ne
    refine ⟨fun e => by rw [e] at hr0; simp at hr0, fun i hir => ?_⟩
    obtain ⟨hc, hrec⟩ := hr1 i hir
    have him : i ∈ ms.map (·.i) := by simpa using hc
    obtain ⟨m, hm, rfl⟩ := List.mem_map.1 him
    obtain ⟨l1, l2, rfl⟩ := List.append_of_mem hm
    have hd1 : ∀ x ∈ l1, x.d ≠ m.d := fun x hx e => by
      rw [List.map_append, List.map_cons, List.nodup_append] at hd
      exact hd.2.2 x.d (List.mem_map_of_mem hx) m.d (by simp) e
    have hi1 : ∀ x ∈ l1, x.i ≠ m.i := fun x hx e => by
      rw [List.map_append, List.map_cons, List.nodup_append] at hi
      exact hi.2.2 x.i (List.mem_map_of_mem hx) m.i (by simp) e
    have hi2 : ∀ x ∈ l2, x.i ≠ m.i := fun x hx e => by
      rw [List.map_append, List.map_cons, List.nodup_append] at hi
      exact (List.nodup_cons.1 hi.2.1).1 (by rw [← e]; exact List.mem_map_of_mem hx)
    have nm : ∀ x ∈ l1 ++ l2, x.i ≠ m.i := fun x hx => by
      rcases List.mem_append.1 hx with h | h
      · exact hi1 x h
      · exact hi2 x h
    have sub : ∀ x ∈ l1 ++ l2, x ∈ l1 ++ m :: l2 := fun x hx => by
      rcases List.mem_append.1 hx with h | h
      · exact List.mem_append_left _ h
      · exact List.mem_append_right _ (List.mem_cons_of_mem _ h)
    have er : ((l1 ++ m :: l2).map (·.i)).erase m.i = (l1 ++ l2).map (·.i) := by
      rw [List.map_append, List.map_cons, List.map_append, List.erase_append_right _ (by
        intro h
        obtain ⟨x, hx, e⟩ := List.mem_map.1 h
        exact hi1 x hx e), List.erase_cons_head]
    refine hmk m hm a w _ hA hb fun v w1 b1 r1 => ?_
    refine ⟨hS _ (hb.trans (b1.mono hb.size)), ?_⟩
    refine ih (l1 ++ l2) _ _ w1 (by simp at hn ⊢; omega) ?_ ?_ (by rw [← er]; exact hrec) (hcl a m v hA hm) (fun a x v hx hxm => hcl a x v hx (sub x hxm)) (hb.trans (b1.mono hb.size)) (fun x hx => hmk x (sub x hx)) (fun x hx => hmo x (sub x hx)) ?_
    · refine hd.sublist ?_
      rw [List.map_append, List.map_append, List.map_cons]
      exact List.Sublist.append_left (List.sublist_cons_self _ _) _
    · refine hi.sublist ?_
      rw [List.map_append, List.map_append, List.map_cons]
      exact List.Sublist.append_left (List.sublist_cons_self _ _) _
    · intro val lo hi' w2 b2 h1 h2
      have q := fin (fun k => if k = m.i then v else val k) (fun k => if k = m.i then w.heap.size else lo k) (fun k => if k = m.i then w1.heap.size else hi' k) w2 (b1.trans (b2.mono b1.size)) ?_ ?_
      · rw [setAll_pick, putAll_pick _ _ _ _ _ hd1, if_pos rfl] at q
        rw [← putAll_congr (val := fun k => if k = m.i then v else val k) (val' := val) (l1 ++ l2) _ (fun x hx => if_neg (nm x hx))]
        exact q
      · intro x hx
        rcases List.mem_append.1 hx with h | h
        · have e := hi1 x h
          simp only [if_neg e]
          obtain ⟨p1, p2, p3, p4⟩ := h1 x (List.mem_append_left _ h)
          exact ⟨Nat.le_trans b1.size p1, p2, p3, p4⟩
        · rcases List.mem_cons.1 h with rfl | h
          · simp only [if_pos]
            exact ⟨Nat.le_refl _, b1.size, b2.size, hmo x hm _ _ _ _ _ r1 b2⟩
          · have e := hi2 x h
            simp only [if_neg e]
            obtain ⟨p1, p2, p3, p4⟩ := h1 x (List.mem_append_right _ h)
            exact ⟨Nat.le_trans b1.size p1, p2, p3, p4⟩
      · have key : ∀ x ∈ l1 ++ l2, w1.heap.size ≤ lo x.i := fun x hx => (h1 x hx).1
        have pos : ∀ x ∈ l1 ++ m :: l2, x.i ≠ m.i → x ∈ l1 ++ l2 := fun x hx e => by
          rcases List.mem_append.1 hx with h | h
          · exact List.mem_append_left _ h
          · rcases List.mem_cons.1 h with rfl | h
            · exact absurd rfl e
            · exact List.mem_append_right _ h
        intro x hx y hy hxy
        by_cases ex : x.i = m.i
        · have ey : y.i ≠ m.i := fun e => hxy (ex.trans e.symm)
          simp only [if_pos ex, if_neg ey]
          exact Or.inl (key y (pos y hy ey))
        · by_cases ey : y.i = m.i
          · simp only [if_neg ex, if_pos ey]
            exact Or.inr (key x (pos x hx ex))
          · simp only [if_neg ex, if_neg ey]
            exact h2 x (pos x hx ex) y (pos y hy ey) hxy
end
end Go.Proofs.Ytcoeinfopfcekaa
