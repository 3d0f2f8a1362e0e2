/- Rows of records in memory; no statement of the seat is proved here. -/
import Derived.Test.YtcoeinfopfcekaaTrI
import Derived.Maps.AppendAt
namespace Go.Proofs.Ytcoeinfopfcekaa
set_option linter.unusedVariables false
open Go.RowKit
theorem ad_off (a : Addr) (i j : Nat) : (a.add i).add j = a.add (i + j) := by
  unfold Addr.add
  by_cases hi : i = 0 <;> by_cases hj : j = 0 <;> simp [hi, hj, Nat.add_assoc]
theorem ad_pos (a : Addr) (j : Nat) : a.add (j + 1) = ⟨a.block, a.off + (j + 1), none⟩ := by
  unfold Addr.add; rw [if_neg (by omega)]
theorem ad_zero (a : Addr) : a.add 0 = a := by simp [Addr.add]
/-- Cells one behind another from an address on. -/
def CsAt (w : World) (p : Addr) (vs : List Value) : Prop := ∀ (j : Nat) v, vs[j]? = some v → w.cell? (p.add j) = some v
theorem CsAt.fr {S : Nat → Prop} {w w' : World} {p : Addr} {vs : List Value} (h : CsAt w p vs) (f : FrS S w w') (hp : S p.block) : CsAt w' p vs :=
  fun j v hv => (f _ (by rw [add_block]; exact hp)).trans (h j v hv)
theorem CsAt.c0 {w : World} {p : Addr} {v : Value} {vs : List Value} (h : CsAt w p (v :: vs)) : w.cell? p = some v := by have := h 0 v rfl; rwa [ad_zero] at this
theorem CsAt.cp {w : World} {p : Addr} {vs : List Value} (h : CsAt w p vs) (j : Nat) (v : Value) (hv : vs[j + 1]? = some v) : w.cell? ⟨p.block, p.off + (j + 1), none⟩ = some v := by have := h (j + 1) v hv; rwa [ad_pos] at this
/-- Records in a row, each of n cells; P tells the cells. -/
def RwF {α : Type} (n : Nat) (P : α → List Value → Prop) (S : Nat → Prop) (w : World) (x : Option Addr) (l : List α) : Prop :=
  few l.length ∧ (x = none → l = []) ∧ ∀ a, x = some a → ∀ (i : Nat) e, l[i]? = some e → S a.block ∧ ∃ vs, P e vs ∧ CsAt w (a.add (i * n)) vs
section
variable {α : Type} {n : Nat} {P : α → List Value → Prop} {S : Nat → Prop} {w w' : World} {x : Option Addr} {l : List α}
theorem RwF.fr (h : RwF n P S w x l) (f : FrS S w w') : RwF n P S w' x l :=
  ⟨h.1, h.2.1, fun a e i t ht => by obtain ⟨h1, vs, h2, h3⟩ := h.2.2 a e i t ht; exact ⟨h1, vs, h2, h3.fr f (by rw [add_block]; exact h1)⟩⟩
theorem RwF.sub {T : Nat → Prop} (hST : ∀ b, S b → T b) (h : RwF n P S w x l) : RwF n P T w x l :=
  ⟨h.1, h.2.1, fun a e i t ht => by obtain ⟨h1, q⟩ := h.2.2 a e i t ht; exact ⟨hST _ h1, q⟩⟩
theorem RwF.imp {P' : α → List Value → Prop} (hP : ∀ e vs, e ∈ l → P e vs → P' e vs) (h : RwF n P S w x l) : RwF n P' S w x l :=
  ⟨h.1, h.2.1, fun a e i t ht => by obtain ⟨h1, vs, h2, h3⟩ := h.2.2 a e i t ht; exact ⟨h1, vs, hP t vs (List.mem_of_getElem? ht) h2, h3⟩⟩
theorem RwF.some (h : RwF n P S w x l) (hl : 0 < l.length) : ∃ a, x = .some a := by
  cases x with
  | none => rw [h.2.1 rfl] at hl; simp at hl
  | some a => exact ⟨a, rfl⟩
theorem RwF.el {a : Addr} (h : RwF n P S w (.some a) l) (i : Nat) (hi : i < l.length) : ∃ e vs, l[i]? = .some e ∧ S a.block ∧ P e vs ∧ CsAt w (a.add (i * n)) vs := by
  obtain ⟨h1, vs, h2, h3⟩ := h.2.2 a rfl i l[i] (List.getElem?_eq_getElem hi)
  exact ⟨l[i], vs, List.getElem?_eq_getElem hi, h1, h2, h3⟩
theorem RwF.nil (n : Nat) (P : α → List Value → Prop) (S : Nat → Prop) (w : World) : RwF n P S w none [] := ⟨by simp, fun _ => rfl, fun a e => by cases e⟩
end
theorem flat_at {n : Nat} : ∀ (vss : List (List Value)) (i j : Nat) (vs : List Value), (∀ v ∈ vss, v.length = n) → vss[i]? = some vs → j < n → vss.flatten[i * n + j]? = vs[j]?
  | [], i, j, vs, _, h, _ => by simp at h
  | a :: vss, 0, j, vs, hn, h, hj => by
    simp at h
    subst h
    rw [List.flatten_cons, List.getElem?_append_left (by rw [hn a (by simp)]; omega)]
    simp
  | a :: vss, i + 1, j, vs, hn, h, hj => by
    have := flat_at vss i j vs (fun v hv => hn v (by simp [hv])) (by simpa using h) hj
    have ha : a.length = n := hn a (by simp)
    rw [List.flatten_cons, List.getElem?_append_right (by rw [ha, Nat.add_mul]; omega)]
    rw [show (i + 1) * n + j - a.length = i * n + j by rw [ha, Nat.add_mul]; omega]
    exact this
theorem flat_len {n : Nat} : ∀ (vss : List (List Value)), (∀ v ∈ vss, v.length = n) → vss.flatten.length = vss.length * n
  | [], _ => by simp
  | a :: vss, hn => by
    have := flat_len vss (fun v hv => hn v (by simp [hv]))
    have ha : a.length = n := hn a (by simp)
    rw [List.flatten_cons, List.length_append, this, ha, List.length_cons, Nat.add_mul]
    omega
theorem flat_ex {n : Nat} (vss : List (List Value)) (hn : ∀ v ∈ vss, v.length = n) (j : Nat) (u : Value) (h : vss.flatten[j]? = some u) : ∃ i r vs, vss[i]? = some vs ∧ j = i * n + r ∧ vs[r]? = some u := by
  have hj := (List.getElem?_eq_some_iff.1 h).1
  rw [flat_len vss hn] at hj
  have n0 : 0 < n := by
    rcases Nat.eq_zero_or_pos n with q | q
    · subst q; simp at hj
    · exact q
  have hi : j / n < vss.length := by rw [Nat.div_lt_iff_lt_mul n0]; exact hj
  have ej : j = j / n * n + j % n := by rw [Nat.mul_comm]; exact (Nat.div_add_mod j n).symm
  refine ⟨j / n, j % n, vss[j / n], List.getElem?_eq_getElem hi, ej, ?_⟩
  rw [← flat_at vss (j / n) (j % n) _ hn (List.getElem?_eq_getElem hi) (Nat.mod_lt _ n0), ← ej]
  exact h
/-- A row of one's own, read row by row. -/
theorem own_rows {w : World} {base : Nat} {T : TypeId} {n k : Nat} {x : Value} {vss : List (List Value)} (h : w.ownsRow base T n x k vss.flatten) (hn : ∀ v ∈ vss, v.length = n) (hk : vss.length = k) :
    ∃ y c, x = .slice y k c ∧ (y = none → k = 0) ∧ ∀ a, y = some a → Fresh base w.heap.size a.block ∧ x.ownBlock = some a.block ∧ ∀ (i : Nat) vs, vss[i]? = some vs → CsAt w (a.add (i * n)) vs := by
  have hc := fun g (hg : x.ownBlock = some g) => h.cells hg
  have hl := h.lt
  obtain ⟨_, h2⟩ := h
  rcases h2 with ⟨e, e'⟩ | ⟨g, cap, cur, e, _⟩
  · subst e'
    exact ⟨none, 0, e, fun _ => rfl, fun a q => by cases q⟩
  · subst e
    refine ⟨_, _, rfl, fun q => (by cases q), fun a q => ?_⟩
    cases q
    refine ⟨hl g rfl, rfl, fun i vs hvs j u hu => ?_⟩
    have lj : j < n := by have := (List.getElem?_eq_some_iff.1 hu).1; rw [hn vs (List.mem_of_getElem? hvs)] at this; exact this
    have := hc g rfl (i * n + j) u (by rw [flat_at vss i j vs hn hvs lj]; exact hu)
    rwa [ad_off]
/-- What tells a record's cells is kept where the blocks of S are. -/
structure Kept {α : Type} (P : (Nat → Prop) → World → α → List Value → Prop) : Prop where
  fr : ∀ {S : Nat → Prop} {w w' : World} {e : α} {vs : List Value}, P S w e vs → FrS S w w' → P S w' e vs
  sub : ∀ {S T : Nat → Prop} {w : World} {e : α} {vs : List Value}, (∀ b, S b → T b) → P S w e vs → P T w e vs
/-- So many are made. -/
def MkI {α : Type} (T : TypeId) (n : Nat) (P : (Nat → Prop) → World → α → List Value → Prop) (base : Nat) (l : List α) (k : Nat) (out : Value) (wr : World) : Prop :=
  ∃ vss : List (List Value), vss.length = k ∧ (∀ v ∈ vss, v.length = n) ∧ wr.ownsRow base T n out k vss.flatten ∧
    ∀ (i : Nat) vs e, vss[i]? = some vs → l[i]? = some e → P (fun b => Fresh base wr.heap.size b ∧ out.ownBlock ≠ some b) wr e vs
section
variable {α : Type} {T : TypeId} {n base k : Nat} {P : (Nat → Prop) → World → α → List Value → Prop} {l : List α} {out out' : Value} {wr W w7 : World}
theorem MkI.zero (T : TypeId) (n base : Nat) (P : (Nat → Prop) → World → α → List Value → Prop) (l : List α) (w : World) : MkI T n P base l 0 (.slice none 0 0) w := ⟨[], rfl, fun v hv => (by cases hv), World.ownsRow_nil _ _ _ _, fun i t e h => by simp at h⟩
theorem MkI.step (K : Kept P) {vss : List (List Value)} (el : vss.length = k) (hn : ∀ v ∈ vss, v.length = n)
    (hf : ∀ (i : Nat) vs e, vss[i]? = some vs → l[i]? = some e → P (fun b => Fresh base wr.heap.size b ∧ out.ownBlock ≠ some b) wr e vs)
    (hlt : ∀ g, out.ownBlock = some g → base ≤ g ∧ g < wr.heap.size)
    (vs : List Value) (e : α) (he : l[k]? = some e) (hvn : vs.length = n) (s0 : base ≤ wr.heap.size) (b5 : Below wr.heap.size wr W)
    (hv : P (Fresh wr.heap.size W.heap.size) W e vs) (hg : W.grownBy w7 out.ownBlock)
    (ho : w7.ownsRow base T n out' (k + 1) (vss.flatten ++ vs)) (hb : out'.ownBlock = out.ownBlock ∨ out'.ownBlock = some W.heap.size) : MkI T n P base l (k + 1) out' w7 := by
  have s5 := b5.size
  have s7 := hg.size
  have ne : ∀ b, b < W.heap.size → out.ownBlock ≠ some b → out'.ownBlock ≠ some b := fun b h1 h2 h3 => by
    rcases hb with q | q
    · exact h2 (q ▸ h3)
    · rw [q] at h3; simp at h3; omega
  refine ⟨vss ++ [vs], by simp [el], fun v hv => ?_, by rw [List.flatten_append]; simpa using ho, fun i t' e' ht hl => ?_⟩
  · rcases List.mem_append.1 hv with q | q
    · exact hn v q
    · rw [List.mem_singleton.1 q]; exact hvn
  by_cases hi : i < k
  · rw [List.getElem?_append_left (by omega)] at ht
    have h := hf i t' e' ht hl
    refine K.sub (fun b hb => ⟨⟨hb.1.1, by have := hb.1.2; omega⟩, ne b (by have := hb.1.2; omega) hb.2⟩) (K.fr (w' := w7) h fun q hq => ?_)
    have q2 := hq.1.2
    refine World.cell?_of_block ?_
    exact (hg.block _ (by omega) (fun h => hq.2 h.symm)).trans (b5.block _ q2)
  · have ik : i = k := by
      have := (List.getElem?_eq_some_iff.1 ht).1
      simp at this
      omega
    subst ik
    rw [List.getElem?_append_right (by omega), el] at ht
    simp at ht
    subst ht
    rw [he] at hl
    cases hl
    have no : ∀ b, wr.heap.size ≤ b → out.ownBlock ≠ some b := fun b h1 h2 => by have := (hlt b h2).2; omega
    refine K.sub (fun b hb => ⟨⟨by have := hb.1; omega, by have := hb.2; omega⟩, ne b (by have := hb.2; omega) (no b hb.1)⟩) (K.fr (w' := w7) hv fun q hq => ?_)
    have q1 := hq.1
    have q2 := hq.2
    refine World.cell?_of_block ?_
    exact hg.block _ (by omega) (fun h => no _ q1 h.symm)
/-- The row that was made. -/
theorem MkI.done (K : Kept P) (h : MkI T n P base l l.length out wr) (hf : few l.length) : ∃ y c, out = .slice y l.length c ∧ RwF n (P (Fresh base wr.heap.size) wr) (Fresh base wr.heap.size) wr y l := by
  obtain ⟨vss, el, hn, ho, hv⟩ := h
  obtain ⟨y, c, e, h0, ha⟩ := own_rows ho hn el
  refine ⟨y, c, e, hf, fun q => List.length_eq_zero_iff.1 (h0 q), fun a q i t ht => ?_⟩
  obtain ⟨h1, h2, h3⟩ := ha a q
  have il : i < l.length := (List.getElem?_eq_some_iff.1 ht).1
  obtain ⟨vs, hvs⟩ : ∃ vs, vss[i]? = some vs := ⟨_, List.getElem?_eq_getElem (by omega)⟩
  exact ⟨h1, vs, K.sub (fun b hb => hb.1) (hv i vs t hvs ht), h3 i vs hvs⟩
end
/-- The cells of records that lie in cells of their own. -/
abbrev Is {α : Type} (cs : α → List Value) : α → List Value → Prop := fun e vs => vs = cs e
section
variable {α : Type} {n : Nat} {cs : α → List Value} {S : Nat → Prop} {w : World} {l : List α} {a : Addr}
theorem RwF.flat (hn : ∀ e, (cs e).length = n) (h : RwF n (Is cs) S w (.some a) l) : ∀ (j : Nat) u, (l.map cs).flatten[j]? = .some u → w.cell? (a.add j) = .some u := by
  intro j u hu
  obtain ⟨i, r, vs, h1, rfl, h3⟩ := flat_ex (n := n) (l.map cs) (by intro v hv; obtain ⟨e, _, rfl⟩ := List.mem_map.1 hv; exact hn e) j u hu
  rw [List.getElem?_map] at h1
  obtain ⟨e, he, rfl⟩ := Option.map_eq_some_iff.1 h1
  obtain ⟨_, vs, rfl, hc⟩ := h.2.2 a rfl i e he
  have := hc r u h3
  rwa [ad_off] at this
theorem own_rw (hn : ∀ e, (cs e).length = n) {T : TypeId} {base : Nat} {x : Value} (h : w.ownsRow base T n x l.length (l.map cs).flatten) (hf : few l.length) : ∃ y c, x = .slice y l.length c ∧ RwF n (Is cs) (Fresh base w.heap.size) w y l := by
  obtain ⟨y, c, e, h0, ha⟩ := own_rows h (by intro v hv; obtain ⟨e, _, rfl⟩ := List.mem_map.1 hv; exact hn e) (by simp)
  refine ⟨y, c, e, hf, fun q => List.length_eq_zero_iff.1 (h0 q), fun a q i t ht => ?_⟩
  obtain ⟨h1, h2, h3⟩ := ha a q
  exact ⟨h1, cs t, rfl, h3 i (cs t) (by rw [List.getElem?_map, ht]; rfl)⟩
end
theorem RwF.old {α : Type} {n : Nat} {P : α → List Value → Prop} {w W : World} {x : Option Addr} {l : List α} (h : RwF n P (fun b => b < w.heap.size) w x l) (hb : Below w.heap.size w W) : RwF n P (fun b => b < W.heap.size) W x l := (h.fr (fun q hq => hb.cell hq)).sub fun b q => Nat.lt_of_lt_of_le q hb.size
end Go.Proofs.Ytcoeinfopfcekaa
