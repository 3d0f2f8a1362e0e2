/- A region whose order is open, whose operations but the last only make memory, and whose last one may do whatever it does: one walk in the text's order serves every order; no statement of the seat is proved here. -/
import Derived.Test.YtjnegbjgogkamaaDoorSubG
namespace Go.Proofs.YtjnegbjgogkamaaDoor
set_option linter.unusedVariables false
open Go.RowKit
section
variable {P : Program} {ops : Array Oper} {md : Region.Mode} {C : World → Prop}
/-- The lexical walk of a beginning of a region. -/
theorem lexL {Q : Act → Prop} (hs : Region.noSelect ops = true) : ∀ (l : List Oper) (k : Nat) (listed : Array Bool) (a : Act), (∀ j o, l[j]? = some o → ops[k + j]? = some o) →
    Region.lexFrom md ops l.length k listed = true → wpQuiet P ops C Q l a → wpAnyQ P md ops C Q l.length listed a := by
  intro l
  induction l with
  | nil => intro k listed a _ hB h; exact ⟨by simpa [Region.lexFrom] using hB, h⟩
  | cons o l ih =>
    intro k listed a hl hB h
    have h0 : ops[k]? = some o := by simpa using hl 0 o (by simp)
    simp only [List.length_cons, Region.lexFrom, Bool.and_eq_true] at hB
    obtain ⟨⟨hr, hf⟩, hB'⟩ := hB
    have hst : qOp P ops C k (wpQuiet P ops C Q l) a := by unfold qOp; simp only [h0]; exact h
    obtain ⟨v, hy, hK⟩ := yieldsIn_of_qOp h0 hst
    refine wpAnyQ_first h0 (Region.noSelect_spec hs) l.length listed a (Region.free_spec h0 hf) (by simpa using hr) hy (ih (k + 1) _ _ (fun j x hj => ?_) hB' hK)
    have := hl (j + 1) x (by simpa using hj)
    rw [show k + 1 + j = k + (j + 1) by omega]; exact this
/-- What has come up has come up behind all that it waits for. -/
def ClB (md : Region.Mode) (ops : Array Oper) (listed : Array Bool) : Prop := ∀ i o, ops[i]? = some o → listed.getD i false = true → ∀ e ∈ o.after, Region.binds md e = true → listed.getD e.on false = true
theorem ClB.set {listed : Array Bool} (h : ClB md ops listed) {i : Nat} (hi : i ∈ Region.ready md ops listed) : ClB md ops (listed.setIfInBounds i true) := by
  obtain ⟨_, o, ho, hall⟩ := mem_ready.1 hi
  intro j p hj hl e he hb
  by_cases c : i = j
  · subst c
    rw [ho] at hj; cases hj
    exact getD_set_true (hall e he hb)
  · rw [getD_set_ne false c] at hl
    exact getD_set_true (h j p hj hl e he hb)
theorem getD_two {listed : Array Bool} {i : Nat} (hi : i < listed.size) (h : ¬ listed.getD i true = false) : listed.getD i false = true := by
  simp [hi] at h ⊢; exact h
theorem getD_of {listed : Array Bool} {i : Nat} (h : listed.getD i false = true) : ¬ listed.getD i true = false := by
  rcases Nat.lt_or_ge i listed.size with c | c
  · simp [c] at h ⊢; exact h
  · simp [Array.getElem?_eq_none c] at h
variable {n : Nat} (hn : ops.size = n + 1) (B1 : ∀ i o, ops[i]? = some o → ∀ e ∈ o.after, Region.binds md e = true → e.on < i)
  (B2 : ∀ i, i < n → ∃ j o, i < j ∧ ops[j]? = some o ∧ ∃ e ∈ o.after, Region.binds md e = true ∧ e.on = i)
include hn B1 in
theorem ready_some {listed : Array Bool} (hs : listed.size = n + 1) : ∀ i, listed.getD i true = false → ∃ j, j ∈ Region.ready md ops listed := by
  intro i
  induction i using Nat.strongRecOn with
  | _ i ih =>
    intro hi
    have hlt : i < n + 1 := by
      rcases Nat.lt_or_ge i listed.size with c | c
      · omega
      · simp [Array.getElem?_eq_none c] at hi
    by_cases c : ∃ k, k < i ∧ listed.getD k true = false
    · obtain ⟨k, h1, h2⟩ := c
      exact ih k h1 h2
    · refine ⟨i, mem_ready.2 ⟨hi, _, Array.getElem?_eq_getElem (by omega), fun e he hb => ?_⟩⟩
      have lt := B1 i _ (Array.getElem?_eq_getElem (by omega)) e he hb
      exact getD_two (by omega) (fun h => c ⟨e.on, lt, h⟩)
include hn B2 in
theorem all_listed {listed : Array Bool} (hs : listed.size = n + 1) (hc : ClB md ops listed) (hr : n ∈ Region.ready md ops listed) : Region.ready md ops (listed.setIfInBounds n true) = [] := by
  obtain ⟨_, o, ho, hall⟩ := mem_ready.1 hr
  have all : ∀ d i, i < n → n - i = d → listed.getD i false = true := by
    intro d
    induction d using Nat.strongRecOn with
    | _ d ih =>
      intro i hi hd
      obtain ⟨j, p, hij, hj, e, he, hb, rfl⟩ := B2 i hi
      have jn : j < n + 1 := by
        rcases Nat.lt_or_ge j ops.size with c | c
        · omega
        · rw [Array.getElem?_eq_none c] at hj; cases hj
      by_cases c : j = n
      · subst c
        rw [ho] at hj; cases hj
        exact hall e he hb
      · exact hc j p hj (ih (n - j) (by omega) j (by omega) rfl) e he hb
  refine List.eq_nil_iff_forall_not_mem.2 fun i hi => ?_
  obtain ⟨h1, p, hp, _⟩ := mem_ready.1 hi
  have ip : i < n + 1 := by
    rcases Nat.lt_or_ge i ops.size with c | c
    · omega
    · rw [Array.getElem?_eq_none c] at hp; cases hp
  by_cases c : i = n
  · subst c
    simp [hs] at h1
  · rw [getD_set_ne true (Ne.symm c)] at h1
    exact getD_of (all _ i (by omega) rfl) h1
include hn B1 B2 in
theorem any_last {Q : Exit → Act → World → Prop} {Q1 : Act → Prop} (hQ : ∀ a w, C w → Q1 a → wpOp P ops Q n (fun a w => Q .normal a w) a w) :
    ∀ (fuel : Nat) (listed : Array Bool) (a : Act) (w : World), C w → listed.size = n + 1 → listed.getD n true = false → ClB md ops listed →
      wpAnyQ P md ops C Q1 fuel (listed.setIfInBounds n true) a → wpAny P md ops Q (fuel + 1) listed a w := by
  intro fuel
  induction fuel with
  | zero =>
    intro listed a w hC hs hl hc h
    refine ⟨fun h0 => ?_, fun i hi => ?_⟩
    · obtain ⟨j, hj⟩ := ready_some hn B1 hs n hl
      rw [h0] at hj; cases hj
    · by_cases c : i = n
      · subst c
        exact wpOp_mono (fun a w hq => ⟨h.1, hq⟩) (hQ a w hC h.2)
      · have := ready_mono hi c
        rw [h.1] at this; cases this
  | succ fuel ih =>
    intro listed a w hC hs hl hc h
    refine ⟨fun h0 => ?_, fun i hi => ?_⟩
    · obtain ⟨j, hj⟩ := ready_some hn B1 hs n hl
      rw [h0] at hj; cases hj
    · by_cases c : i = n
      · subst c
        have e := all_listed hn B2 hs hc hi
        exact wpOp_mono (fun a w hq => ⟨fun _ => hq, by rw [e]; simp⟩) (hQ a w hC (h.1 e))
      · refine wpOp_of_qOp hC (fun a' w' hC' hk => ih (listed.setIfInBounds i true) a' w' hC' (by simpa using hs) (by rw [getD_set_ne true c]; exact hl) (hc.set hi) ?_) (h.2 i (ready_mono hi c))
        rw [Array.setIfInBounds_comm _ _ c]; exact hk
end
/-- Every operation waits for earlier ones alone. -/
def upB (ops : Array Oper) : Bool := (List.range ops.size).all fun i => match ops[i]? with | none => true | some o => o.after.all fun e => !Region.binds .any e || decide (e.on < i)
/-- Every operation but the last is waited for by a later one. -/
def useB (ops : Array Oper) : Bool := (List.range (ops.size - 1)).all fun i => (List.range ops.size).any fun j => decide (i < j) && match ops[j]? with | none => false | some o => o.after.any fun e => Region.binds .any e && e.on == i
def lastB (ops : Array Oper) : Bool := Region.noSelect ops && Region.lexFrom .any ops (ops.size - 1) 0 ((Array.replicate ops.size false).setIfInBounds (ops.size - 1) true) && upB ops && useB ops
theorem wp_region_last {P : Program} {id : Nat} {Q : Exit → Act → World → Prop} {a : Act} {w : World} {l : List Oper} (o : Oper) (hm : P.follows .mixedOrders = true) (hB : lastB l.toArray = true) (ho : l.getLast? = some o)
    (h : (∀ (x : Sub w) (b o : Nat), b < w.heap.size → x.w.cell? ⟨b, o, none⟩ = w.cell? ⟨b, o, none⟩) → wpQuiet P l.toArray (fun w' => ∃ x : Sub w, w' = x.w) (fun a' => ∀ w', (∃ x : Sub w, w' = x.w) → wpList P l.toArray Q [o] a' w') l.dropLast a) : (Code.region id l.toArray true).wp P Q a w := by
  have h := h fun x b o hb => x.cell b o hb
  simp only [lastB, Bool.and_eq_true] at hB
  obtain ⟨⟨⟨b1, b2⟩, b3⟩, b4⟩ := hB
  obtain ⟨l', rfl⟩ : ∃ l', l = l' ++ [o] := by
    have ne : l ≠ [] := by intro e; subst e; simp at ho
    rw [List.getLast?_eq_some_getLast ne] at ho
    exact ⟨l.dropLast, by rw [← Option.some.inj ho]; exact (List.dropLast_concat_getLast ne).symm⟩
  rw [List.dropLast_concat] at h
  have sz : (l' ++ [o]).toArray.size = l'.length + 1 := by simp
  rw [sz, Nat.add_sub_cancel] at b2
  refine wp_region_any hm ?_
  rw [sz]
  refine any_last (n := l'.length) sz ?_ ?_ (C := fun w' => ∃ x : Sub w, w' = x.w) (Q1 := fun a' => ∀ w', (∃ x : Sub w, w' = x.w) → wpList P (l' ++ [o]).toArray Q [o] a' w') ?_ l'.length _ a _ ⟨⟨w.drew, (Below.refl _ _).drew⟩, rfl⟩ (by simp) (by simp) ?_ ?_
  · intro i p hp e he hb
    have hi : i < (l' ++ [o]).toArray.size := by
      rcases Nat.lt_or_ge i (l' ++ [o]).toArray.size with c | c
      · exact c
      · rw [Array.getElem?_eq_none c] at hp; cases hp
    have := List.all_eq_true.1 b3 i (List.mem_range.2 hi)
    rw [hp] at this
    have := Array.all_eq_true_iff_forall_mem.1 this e he
    simpa [hb] using this
  · intro i hi
    have := List.all_eq_true.1 b4 i (List.mem_range.2 (by rw [sz]; omega))
    obtain ⟨j, _, hj⟩ := List.any_eq_true.1 this
    simp only [Bool.and_eq_true, decide_eq_true_eq] at hj
    obtain ⟨h1, h2⟩ := hj
    cases c : (l' ++ [o]).toArray[j]? with
    | none => rw [c] at h2; cases h2
    | some p =>
      rw [c] at h2
      simp at h2
      obtain ⟨k, hk, hb⟩ := h2
      exact ⟨j, p, h1, c, p.after[k], Array.getElem_mem hk, hb.1, hb.2⟩
  · intro a' w' hC hq
    have := hq w' hC
    have e : (l' ++ [o]).toArray[l'.length]? = some o := by simp
    unfold wpOp
    rw [e]
    unfold wpList at this
    exact this
  · intro i p hp hl
    exfalso
    rcases Nat.lt_or_ge i (l'.length + 1) with c | c
    · simp [c] at hl
    · simp [Nat.not_lt.2 c] at hl
  · exact lexL b1 l' 0 _ a (fun j x hj => by
      have hj' : j < l'.length := (List.getElem?_eq_some_iff.1 hj).1
      simp [List.getElem?_append_left, hj']
      exact (List.getElem?_eq_some_iff.1 hj).2) b2 h
end Go.Proofs.YtjnegbjgogkamaaDoor
