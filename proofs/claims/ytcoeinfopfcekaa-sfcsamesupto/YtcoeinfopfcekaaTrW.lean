/- Statements in a row copied; no statement of the seat is proved here. -/
import Derived.Test.YtcoeinfopfcekaaTrU0
import Derived.Test.YtcoeinfopfcekaaTrM
import Derived.Maps.AppendAt
namespace Go.Proofs.Ytcoeinfopfcekaa
set_option linter.unusedVariables false
open Go.RowKit
/-- A statement's cells. -/
structure TT where
  h : SH
  a1 : Value
  a2 : Value
  a3 : Value
  a4 : Value
  a5 : Value
  a6 : Value
  a7 : Value
def sc (t : TT) : List Value := [.int .i64 t.h.op, .int .i64 t.h.pl, .string t.h.nm, .int .i64 t.h.nu, t.a1, t.a2, t.a3, t.a4, t.a5, t.a6, t.a7, .int .u8 t.h.kd, .int .i64 t.h.ar, .int .i64 t.h.rf]
def scL (hs : List (TT)) : List Value := hs.flatMap sc
theorem scL_at : ∀ (hs : List (TT)) (i j : Nat) (t : TT), hs[i]? = some t → j < 14 → (scL hs)[i * 14 + j]? = (sc t)[j]?
  | [], i, j, t, h, _ => by simp at h
  | a :: hs, 0, j, t, h, hj => by
    simp at h
    subst h
    unfold scL
    rw [List.flatMap_cons, List.getElem?_append_left (by simp [sc]; omega)]
    simp
  | a :: hs, i + 1, j, t, h, hj => by
    have := scL_at hs i j t (by simpa using h) hj
    unfold scL at this ⊢
    rw [List.flatMap_cons, List.getElem?_append_right (by simp [sc]; omega)]
    rw [show (i + 1) * 14 + j - (sc a).length = i * 14 + j by simp [sc]; omega]
    exact this
theorem scL_snoc (hs : List (TT)) (t : TT) : scL (hs ++ [t]) = scL hs ++ sc t := by simp [scL]
/-- So many are copied. -/
def CsI (d : Nat) (w : World) (l : List St) (k : Nat) (out : Value) (wr : World) : Prop :=
  ∃ hs : List (TT), hs.length = k ∧ wr.ownsRow w.heap.size 65 14 out k (scL hs) ∧
    ∀ (i : Nat) t e, hs[i]? = some t → l[i]? = some e → SvF (fun b => Fresh w.heap.size wr.heap.size b ∧ out.ownBlock ≠ some b) d wr (SV t.h t.a1 t.a2 t.a3 t.a4 t.a5 t.a6 t.a7) e
theorem CsI.zero (d : Nat) (w : World) (l : List St) : CsI d w l 0 (.slice none 0 0) w := ⟨[], rfl, World.ownsRow_nil _ _ _ _, fun i t e h => by simp at h⟩
theorem CsI.step {d : Nat} {w wr w5 W6 w7 : World} {l : List St} {k : Nat} {out out' : Value} {hs : List (TT)} (el : hs.length = k)
    (hf : ∀ (i : Nat) t e, hs[i]? = some t → l[i]? = some e → SvF (fun b => Fresh w.heap.size wr.heap.size b ∧ out.ownBlock ≠ some b) d wr (SV t.h t.a1 t.a2 t.a3 t.a4 t.a5 t.a6 t.a7) e)
    (hlt : ∀ g, out.ownBlock = some g → w.heap.size ≤ g ∧ g < wr.heap.size)
    (t : TT) (e : St) (he : l[k]? = some e) (s0 : w.heap.size ≤ wr.heap.size) (b5 : Below wr.heap.size wr w5) (b6 : Below w5.heap.size w5 W6)
    (hv : SvF (Fresh wr.heap.size w5.heap.size) d w5 (SV t.h t.a1 t.a2 t.a3 t.a4 t.a5 t.a6 t.a7) e) (hg : W6.grownBy w7 out.ownBlock)
    (ho : w7.ownsRow w.heap.size 65 14 out' (k + 1) (scL hs ++ sc t)) (hb : out'.ownBlock = out.ownBlock ∨ out'.ownBlock = some W6.heap.size) : CsI d w l (k + 1) out' w7 := by
  have s5 := b5.size
  have s6 := b6.size
  have s7 := hg.size
  have ne : ∀ b, b < W6.heap.size → out.ownBlock ≠ some b → out'.ownBlock ≠ some b := fun b h1 h2 h3 => by
    rcases hb with q | q
    · exact h2 (q ▸ h3)
    · rw [q] at h3; simp at h3; omega
  refine ⟨hs ++ [t], by simp [el], by rw [scL_snoc]; exact ho, fun i t' e' ht hl => ?_⟩
  by_cases hi : i < k
  · rw [List.getElem?_append_left (by omega)] at ht
    have h := hf i t' e' ht hl
    refine (h.fr (w' := w7) fun q hq => ?_).sub fun b hb => ⟨⟨hb.1.1, by have := hb.1.2; omega⟩, ne b (by have := hb.1.2; omega) hb.2⟩
    have q2 := hq.1.2
    refine World.cell?_of_block ?_
    exact (hg.block _ (by omega) (fun h => hq.2 h.symm)).trans ((b6.block _ (by omega)).trans (b5.block _ q2))
  · have ik : i = k := by
      have := (List.getElem?_eq_some_iff.1 ht).1
      simp at this
      omega
    subst ik
    rw [List.getElem?_append_right (by omega), el] at ht
    simp at ht
    subst ht
    rw [he] at hl
    cases hl
    have no : ∀ b, wr.heap.size ≤ b → out.ownBlock ≠ some b := fun b h1 h2 => by have := (hlt b h2).2; omega
    refine (hv.fr (w' := w7) fun q hq => ?_).sub fun b hb => ⟨⟨by have := hb.1; omega, by have := hb.2; omega⟩, ne b (by have := hb.2; omega) (no b hb.1)⟩
    have q1 := hq.1
    have q2 := hq.2
    refine World.cell?_of_block ?_
    exact (hg.block _ (by omega) (fun h => no _ q1 h.symm)).trans (b6.block _ q2)
/-- The copied row. -/
theorem CsI.done {d : Nat} {w wr : World} {l : List St} {out : Value} (h : CsI d w l l.length out wr) (hf : few l.length) : ∃ y c, out = .slice y l.length c ∧ StL (Fresh w.heap.size wr.heap.size) (d + 1) wr y l := by
  obtain ⟨hs, el, ho, hv⟩ := h
  have hc := fun g (hg : out.ownBlock = some g) => ho.cells hg
  have hl := ho.lt
  obtain ⟨_, h2⟩ := ho
  rcases h2 with ⟨e, e'⟩ | ⟨g, cap, cur, e, hb, hg, _⟩
  · have : l = [] := List.length_eq_zero_iff.1 e'
    subst this
    exact ⟨none, 0, e, hf, fun _ => rfl, fun b q => by cases q⟩
  · subst e
    refine ⟨_, _, rfl, hf, fun q => (by cases q), fun b q i e he => ?_⟩
    cases q
    have il : i < l.length := (List.getElem?_eq_some_iff.1 he).1
    obtain ⟨t, ht⟩ : ∃ t, hs[i]? = some t := ⟨_, List.getElem?_eq_getElem (by omega)⟩
    have v := (hv i t e ht he).sub (T := Fresh w.heap.size wr.heap.size) (fun b hb => hb.1)
    have cl := hc g rfl
    have ad : ∀ j, (⟨g, 0, none⟩ : Addr).add j = ⟨g, j, none⟩ := fun j => by unfold Addr.add; split <;> simp_all
    have ca : ∀ j u, j < 14 → (sc t)[j]? = some u → wr.cell? ⟨g, i * 14 + j, none⟩ = some u := fun j u hj hu => by
      have := cl (i * 14 + j) u (by rw [scL_at hs i j t ht hj]; exact hu)
      rwa [ad] at this
    rw [ad]
    cases e with
    | mk hd es ns os on rs b e =>
      obtain ⟨x1, c1, x2, c2, x3, c3, x4, c4, x5, c5, x6, c6, x7, c7, ev, k1, n1, f1, k2, n2, f2, r1, f3, l1, l2⟩ := v
      cases t with
      | mk th a1 a2 a3 a4 a5 a6 a7 =>
        have e1 : th = hd := by
          cases th
          cases hd
          simp only [SV, Value.agg.injEq, Array.mk.injEq, List.cons.injEq, Value.int.injEq, Value.string.injEq] at ev
          simp_all
        subst e1
        simp only [SV, Value.agg.injEq, Array.mk.injEq, List.cons.injEq] at ev
        obtain ⟨_, _, _, _, rfl, rfl, rfl, rfl, rfl, rfl, rfl, _⟩ := ev
        refine ⟨(hl g rfl), x1, c1, x2, c2, x3, c3, x4, c4, x5, c5, x6, c6, x7, c7, ?_, k1, n1, f1, k2, n2, f2, r1, f3, l1.1, l1.2.1, l1.2.2, l2.1, l2.2.1, l2.2.2⟩
        exact ⟨by simpa using ca 0 _ (by decide) rfl, ca 1 _ (by decide) rfl, ca 2 _ (by decide) rfl, ca 3 _ (by decide) rfl, ca 4 _ (by decide) rfl, ca 5 _ (by decide) rfl, ca 6 _ (by decide) rfl, ca 7 _ (by decide) rfl, ca 8 _ (by decide) rfl, ca 9 _ (by decide) rfl, ca 10 _ (by decide) rfl, ca 11 _ (by decide) rfl, ca 12 _ (by decide) rfl, ca 13 _ (by decide) rfl⟩
end Go.Proofs.Ytcoeinfopfcekaa
