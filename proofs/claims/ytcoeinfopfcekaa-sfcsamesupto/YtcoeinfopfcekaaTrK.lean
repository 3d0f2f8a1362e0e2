/- Expressions in a row copied; no statement of the seat is proved here. -/
import Derived.Test.YtcoeinfopfcekaaTrJ
import Derived.Test.YtcoeinfopfcekaaTrD
import Derived.Maps.AppendAt
namespace Go.Proofs.Ytcoeinfopfcekaa
set_option linter.unusedVariables false
open Go.RowKit
/-- An expression's cells. -/
def xc (t : EH × Value × Value) : List Value := [.int .i64 t.1.op, .int .i64 t.1.pl, .string t.1.nm, .string t.1.fd, .int .u8 t.1.vk, .int .u64 t.1.vb, .string t.1.vs, t.2.1, t.2.2, .int .u8 t.1.kd, .int .i64 t.1.ar, .int .i64 t.1.rf, .int .i64 t.1.fr, .int .i64 t.1.up]
def xcL (hs : List (EH × Value × Value)) : List Value := hs.flatMap xc
theorem xcL_at : ∀ (hs : List (EH × Value × Value)) (i j : Nat) (t : EH × Value × Value), hs[i]? = some t → j < 14 → (xcL hs)[i * 14 + j]? = (xc t)[j]?
  | [], i, j, t, h, _ => by simp at h
  | a :: hs, 0, j, t, h, hj => by
    simp at h
    subst h
    unfold xcL
    rw [List.flatMap_cons, List.getElem?_append_left (by simp [xc]; omega)]
    simp
  | a :: hs, i + 1, j, t, h, hj => by
    have := xcL_at hs i j t (by simpa using h) hj
    unfold xcL at this ⊢
    rw [List.flatMap_cons, List.getElem?_append_right (by simp [xc]; omega)]
    rw [show (i + 1) * 14 + j - (xc a).length = i * 14 + j by simp [xc]; omega]
    exact this
theorem xcL_snoc (hs : List (EH × Value × Value)) (t : EH × Value × Value) : xcL (hs ++ [t]) = xcL hs ++ xc t := by simp [xcL]
/-- So many are copied. -/
def CpI (d : Nat) (w : World) (l : List Ex) (k : Nat) (out : Value) (wr : World) : Prop :=
  ∃ hs : List (EH × Value × Value), hs.length = k ∧ wr.ownsRow w.heap.size 42 14 out k (xcL hs) ∧
    ∀ (i : Nat) t e, hs[i]? = some t → l[i]? = some e → EvF (fun b => Fresh w.heap.size wr.heap.size b ∧ out.ownBlock ≠ some b) d wr (EV t.1 t.2.1 t.2.2) e
theorem CpI.zero (d : Nat) (w : World) (l : List Ex) : CpI d w l 0 (.slice none 0 0) w := ⟨[], rfl, World.ownsRow_nil _ _ _ _, fun i t e h => by simp at h⟩
theorem CpI.step {d : Nat} {w wr w5 W6 w7 : World} {l : List Ex} {k : Nat} {out out' : Value} {hs : List (EH × Value × Value)} (el : hs.length = k)
    (hf : ∀ (i : Nat) t e, hs[i]? = some t → l[i]? = some e → EvF (fun b => Fresh w.heap.size wr.heap.size b ∧ out.ownBlock ≠ some b) d wr (EV t.1 t.2.1 t.2.2) e)
    (hlt : ∀ g, out.ownBlock = some g → w.heap.size ≤ g ∧ g < wr.heap.size)
    (t : EH × Value × Value) (e : Ex) (he : l[k]? = some e) (s0 : w.heap.size ≤ wr.heap.size) (b5 : Below wr.heap.size wr w5) (b6 : Below w5.heap.size w5 W6)
    (hv : EvF (Fresh wr.heap.size w5.heap.size) d w5 (EV t.1 t.2.1 t.2.2) e) (hg : W6.grownBy w7 out.ownBlock)
    (ho : w7.ownsRow w.heap.size 42 14 out' (k + 1) (xcL hs ++ xc t)) (hb : out'.ownBlock = out.ownBlock ∨ out'.ownBlock = some W6.heap.size) : CpI d w l (k + 1) out' w7 := by
  have s5 := b5.size
  have s6 := b6.size
  have s7 := hg.size
  have ne : ∀ b, b < W6.heap.size → out.ownBlock ≠ some b → out'.ownBlock ≠ some b := fun b h1 h2 h3 => by
    rcases hb with q | q
    · exact h2 (q ▸ h3)
    · rw [q] at h3; simp at h3; omega
  refine ⟨hs ++ [t], by simp [el], by rw [xcL_snoc]; exact ho, fun i t' e' ht hl => ?_⟩
  by_cases hi : i < k
  · rw [List.getElem?_append_left (by omega)] at ht
    have h := hf i t' e' ht hl
    refine (h.fr (w' := w7) fun q hq => ?_).sub fun b hb => ⟨⟨hb.1.1, by have := hb.1.2; omega⟩, ne b (by have := hb.1.2; omega) hb.2⟩
    have q2 := hq.1.2
    refine World.cell?_of_block ?_
    exact (hg.block _ (by omega) (fun h => hq.2 h.symm)).trans ((b6.block _ (by omega)).trans (b5.block _ q2))
  · have ik : i = k := by
      have := (List.getElem?_eq_some_iff.1 ht).1
      simp at this
      omega
    subst ik
    rw [List.getElem?_append_right (by omega), el] at ht
    simp at ht
    subst ht
    rw [he] at hl
    cases hl
    have no : ∀ b, wr.heap.size ≤ b → out.ownBlock ≠ some b := fun b h1 h2 => by have := (hlt b h2).2; omega
    refine (hv.fr (w' := w7) fun q hq => ?_).sub fun b hb => ⟨⟨by have := hb.1; omega, by have := hb.2; omega⟩, ne b (by have := hb.2; omega) (no b hb.1)⟩
    have q1 := hq.1
    have q2 := hq.2
    refine World.cell?_of_block ?_
    exact (hg.block _ (by omega) (fun h => no _ q1 h.symm)).trans (b6.block _ q2)
/-- The copied row. -/
theorem CpI.done {d : Nat} {w wr : World} {l : List Ex} {out : Value} (h : CpI d w l l.length out wr) (hf : few l.length) : ∃ y c, out = .slice y l.length c ∧ KdF (Fresh w.heap.size wr.heap.size) (d + 1) wr y l := by
  obtain ⟨hs, el, ho, hv⟩ := h
  have hc := fun g (hg : out.ownBlock = some g) => ho.cells hg
  have hl := ho.lt
  obtain ⟨_, h2⟩ := ho
  rcases h2 with ⟨e, e'⟩ | ⟨g, cap, cur, e, hb, hg, _⟩
  · have : l = [] := List.length_eq_zero_iff.1 e'
    subst this
    exact ⟨none, 0, e, hf, fun _ => rfl, fun b q => by cases q⟩
  · subst e
    refine ⟨_, _, rfl, hf, fun q => (by cases q), fun b q i e he => ?_⟩
    cases q
    have il : i < l.length := (List.getElem?_eq_some_iff.1 he).1
    obtain ⟨t, ht⟩ : ∃ t, hs[i]? = some t := ⟨_, List.getElem?_eq_getElem (by omega)⟩
    have v := hv i t e ht he
    have cl := hc g rfl
    have ad : ∀ j, (⟨g, 0, none⟩ : Addr).add j = ⟨g, j, none⟩ := fun j => by unfold Addr.add; split <;> simp_all
    have ca : ∀ j u, j < 14 → (xc t)[j]? = some u → wr.cell? ⟨g, i * 14 + j, none⟩ = some u := fun j u hj hu => by
      have := cl (i * 14 + j) u (by rw [xcL_at hs i j t ht hj]; exact hu)
      rwa [ad] at this
    rw [ad]
    cases e with
    | mk hd ns kl =>
      obtain ⟨x, c, y, c', ev, hn, f1, hk⟩ := v
      have e1 : t.1 = hd ∧ t.2.1 = .slice x kl.length c ∧ t.2.2 = .slice y ns.length c' := by
        simp only [EV, Value.agg.injEq, Array.mk.injEq, List.cons.injEq, Value.int.injEq, Value.string.injEq] at ev
        refine ⟨?_, by simp [ev], by simp [ev]⟩
        cases t with
        | mk t1 t2 =>
          cases t1
          cases hd
          simp_all
      obtain ⟨rfl, e2, e3⟩ := e1
      refine ⟨(hl g rfl), x, c, y, c', ?_, ⟨hn.1, fun a e i s q => (hn.2 a e i s q).1⟩, f1, hk.1, hk.2.1, fun b e i q hq => ExF.sub (fun b hb => hb.1) d (hk.2.2 b e i q hq)⟩
      rw [← e2, ← e3]
      exact ⟨by simpa using ca 0 _ (by decide) rfl, ca 1 _ (by decide) rfl, ca 2 _ (by decide) rfl, ca 3 _ (by decide) rfl, ca 4 _ (by decide) rfl, ca 5 _ (by decide) rfl, ca 6 _ (by decide) rfl, ca 7 _ (by decide) rfl, ca 8 _ (by decide) rfl, ca 9 _ (by decide) rfl, ca 10 _ (by decide) rfl, ca 11 _ (by decide) rfl, ca 12 _ (by decide) rfl, ca 13 _ (by decide) rfl⟩
end Go.Proofs.Ytcoeinfopfcekaa
