/- Trees of expressions in memory; no statement of the seat is proved here. -/
import Derived.Test.YtcoeinfopfcekaaTrB
namespace Go.Proofs.Ytcoeinfopfcekaa
set_option linter.unusedVariables false
open Go.RowKit
/-- What an expression has besides its parts. -/
structure EH where
  op : Int
  pl : Int
  nm : ByteArray
  fd : ByteArray
  vk : Int
  vb : Int
  vs : ByteArray
  kd : Int
  ar : Int
  rf : Int
  fr : Int
  up : Int
/-- An expression: its head, the names of its parts, its parts. -/
inductive Ex where
  | mk (h : EH) (ns : List ByteArray) (l : List Ex)
/-- An expression as a value. -/
abbrev EV (h : EH) (k n : Value) : Value := .agg #[.int .i64 h.op, .int .i64 h.pl, .string h.nm, .string h.fd, .int .u8 h.vk, .int .u64 h.vb, .string h.vs, k, n, .int .u8 h.kd, .int .i64 h.ar, .int .i64 h.rf, .int .i64 h.fr, .int .i64 h.up]
/-- Its cells. -/
structure EcAt (w : World) (p : Addr) (h : EH) (k n : Value) : Prop where
  c0 : w.cell? p = some (.int .i64 h.op)
  c1 : w.cell? ⟨p.block, p.off + 1, none⟩ = some (.int .i64 h.pl)
  c2 : w.cell? ⟨p.block, p.off + 2, none⟩ = some (.string h.nm)
  c3 : w.cell? ⟨p.block, p.off + 3, none⟩ = some (.string h.fd)
  c4 : w.cell? ⟨p.block, p.off + 4, none⟩ = some (.int .u8 h.vk)
  c5 : w.cell? ⟨p.block, p.off + 5, none⟩ = some (.int .u64 h.vb)
  c6 : w.cell? ⟨p.block, p.off + 6, none⟩ = some (.string h.vs)
  c7 : w.cell? ⟨p.block, p.off + 7, none⟩ = some (k)
  c8 : w.cell? ⟨p.block, p.off + 8, none⟩ = some (n)
  c9 : w.cell? ⟨p.block, p.off + 9, none⟩ = some (.int .u8 h.kd)
  c10 : w.cell? ⟨p.block, p.off + 10, none⟩ = some (.int .i64 h.ar)
  c11 : w.cell? ⟨p.block, p.off + 11, none⟩ = some (.int .i64 h.rf)
  c12 : w.cell? ⟨p.block, p.off + 12, none⟩ = some (.int .i64 h.fr)
  c13 : w.cell? ⟨p.block, p.off + 13, none⟩ = some (.int .i64 h.up)
theorem EcAt.below {w w' : World} {p : Addr} {h : EH} {k n : Value} (a : EcAt w p h k n) (hb : Below w.heap.size w w') : EcAt w' p h k n := by
  have z := block_lt_of_cell a.c0
  exact ⟨(hb.cell (p := p) z).trans a.c0, (hb.cell (p := ⟨p.block, p.off + 1, none⟩) z).trans a.c1, (hb.cell (p := ⟨p.block, p.off + 2, none⟩) z).trans a.c2, (hb.cell (p := ⟨p.block, p.off + 3, none⟩) z).trans a.c3, (hb.cell (p := ⟨p.block, p.off + 4, none⟩) z).trans a.c4, (hb.cell (p := ⟨p.block, p.off + 5, none⟩) z).trans a.c5, (hb.cell (p := ⟨p.block, p.off + 6, none⟩) z).trans a.c6, (hb.cell (p := ⟨p.block, p.off + 7, none⟩) z).trans a.c7, (hb.cell (p := ⟨p.block, p.off + 8, none⟩) z).trans a.c8, (hb.cell (p := ⟨p.block, p.off + 9, none⟩) z).trans a.c9, (hb.cell (p := ⟨p.block, p.off + 10, none⟩) z).trans a.c10, (hb.cell (p := ⟨p.block, p.off + 11, none⟩) z).trans a.c11, (hb.cell (p := ⟨p.block, p.off + 12, none⟩) z).trans a.c12, (hb.cell (p := ⟨p.block, p.off + 13, none⟩) z).trans a.c13⟩
/-- Few enough for an int. -/
abbrev few (n : Nat) : Prop := n < 549755813888
/-- An expression at an address; so deep at most. -/
def ExAt : Nat → World → Addr → Ex → Prop
  | 0, _, _, _ => False
  | d + 1, w, p, .mk h ns l => ∃ x c y c', EcAt w p h (.slice x l.length c) (.slice y ns.length c') ∧ NmAt w y ns ∧ few ns.length ∧ few l.length ∧ (x = none → l = []) ∧ ∀ b, x = some b → ∀ i e, l[i]? = some e → ExAt d w (b.add (i * 14)) e
/-- Expressions in a row. -/
def KdAt (d : Nat) (w : World) (x : Option Addr) (l : List Ex) : Prop := few l.length ∧ (x = none → l = []) ∧ ∀ b, x = some b → ∀ i e, l[i]? = some e → ExAt d w (b.add (i * 14)) e
/-- An expression's value, as it is handed on. -/
def EvOk (d : Nat) (w : World) (v : Value) : Ex → Prop
  | .mk h ns l => ∃ x c y c', v = EV h (.slice x l.length c) (.slice y ns.length c') ∧ NmAt w y ns ∧ few ns.length ∧ KdAt d w x l
theorem ExAt.below : ∀ (d : Nat) {w w' : World} {p : Addr} {e : Ex}, ExAt d w p e → Below w.heap.size w w' → ExAt d w' p e
  | 0, _, _, _, _, h, _ => h.elim
  | d + 1, w, w', p, .mk h ns l, ⟨x, c, y, c', hc, hn, f1, f2, h0, hk⟩, hb => ⟨x, c, y, c', hc.below hb, hn.below hb, f1, f2, h0, fun b e i q hq => ExAt.below d (hk b e i q hq) hb⟩
theorem KdAt.below {d : Nat} {w w' : World} {x : Option Addr} {l : List Ex} (h : KdAt d w x l) (hb : Below w.heap.size w w') : KdAt d w' x l := ⟨h.1, h.2.1, fun b e i q hq => ExAt.below d (h.2.2 b e i q hq) hb⟩
theorem EvOk.below {d : Nat} {w w' : World} {v : Value} {e : Ex} (h : EvOk d w v e) (hb : Below w.heap.size w w') : EvOk d w' v e := by
  cases e with
  | mk hd ns l =>
    obtain ⟨x, c, y, c', e, hn, f, hk⟩ := h
    exact ⟨x, c, y, c', e, hn.below hb, f, hk.below hb⟩
/-- What an element of a row reads as. -/
theorem KdAt.el {d : Nat} {w : World} {b : Addr} {l : List Ex} (h : KdAt (d + 1) w (some b) l) (i : Nat) (hi : i < l.length) : ∃ hd ns l' x c y c', l[i]? = some (.mk hd ns l') ∧ EcAt w (b.add (i * 14)) hd (.slice x l'.length c) (.slice y ns.length c') ∧ EvOk d w (EV hd (.slice x l'.length c) (.slice y ns.length c')) (.mk hd ns l') := by
  have a := h.2.2 b rfl i l[i] (List.getElem?_eq_getElem hi)
  cases e : l[i] with
  | mk hd ns l' =>
    rw [e] at a
    obtain ⟨x, c, y, c', hc, hn, f1, f2, h0, hk⟩ := a
    exact ⟨hd, ns, l', x, c, y, c', by rw [List.getElem?_eq_getElem hi, e], hc, x, c, y, c', rfl, hn, f1, f2, h0, hk⟩
theorem KdAt.none0 {w : World} {x : Option Addr} {l : List Ex} (h : KdAt 0 w x l) : l = [] := by
  cases x with
  | none => exact h.2.1 rfl
  | some b =>
    cases l with
    | nil => rfl
    | cons e l => exact (h.2.2 b rfl 0 e rfl).elim
/-- Are two rows the same, by what tells it of two? -/
def smL {α : Type} (f : α → α → Bool) : List α → List α → Bool
  | [], [] => true
  | a :: l, b :: l' => f a b && smL f l l'
  | [], _ :: _ => false
  | _ :: _, [] => false
theorem smL_len {α : Type} (f : α → α → Bool) : ∀ l l' : List α, ¬ l.length = l'.length → smL f l l' = false
  | [], [], h => absurd rfl h
  | a :: l, b :: l', h => by simp [smL, smL_len f l l' (fun e => h (by simp [e]))]
  | [], _ :: _, _ => rfl
  | _ :: _, [], _ => rfl
theorem smL_all {α : Type} (f : α → α → Bool) : ∀ l l' : List α, l.length = l'.length → (∀ (i : Nat) e e', l[i]? = some e → l'[i]? = some e' → f e e' = true) → smL f l l' = true
  | [], [], _, _ => rfl
  | a :: l, b :: l', h, k => by
    have h0 := k 0 a b rfl rfl
    have ih := smL_all f l l' (by simpa using h) (fun i e e' x y => k (i + 1) e e' (by simpa using x) (by simpa using y))
    simp [smL, h0, ih]
  | [], _ :: _, h, _ => absurd h (by simp)
  | _ :: _, [], h, _ => absurd h (by simp)
theorem smL_bad {α : Type} (f : α → α → Bool) : ∀ (l l' : List α) (i : Nat) (e e' : α), l[i]? = some e → l'[i]? = some e' → f e e' = false → smL f l l' = false
  | [], _, i, _, _, h, _, _ => by simp at h
  | _ :: _, [], i, _, _, _, h, _ => by simp at h
  | a :: l, b :: l', 0, e, e', h, k, q => by
    simp at h k
    subst h k
    simp [smL, q]
  | a :: l, b :: l', i + 1, e, e', h, k, q => by
    have := smL_bad f l l' i e e' (by simpa using h) (by simpa using k) q
    simp [smL, this]
def hdS (h h' : EH) : Bool := decide (h.op = h'.op ∧ h.nm = h'.nm ∧ h.fd = h'.fd ∧ h.vk = h'.vk ∧ h.vb = h'.vb ∧ h.vs = h'.vs)
def smE : Nat → Ex → Ex → Bool
  | 0, _, _ => false
  | d + 1, .mk h ns l, .mk h' ns' l' => hdS h h' && decide (ns = ns') && smL (smE d) l l'
end Go.Proofs.Ytcoeinfopfcekaa
