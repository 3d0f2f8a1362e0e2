/- Images in memory; no statement of the seat is proved here. -/
import Derived.Test.YtpcjnhffpkpchaaGreatSubG
import Derived.Handy
import Derived.OwnWalk
import Derived.Laws.CopyOwn
import Derived.Deep.WholeRow
import Derived.Maps.AppendAt
namespace Go.Proofs.YtpcjnhffpkpchaaGreat
set_option linter.unusedVariables false
open Go.RowKit
theorem ba_ext {a b : ByteArray} (h : a.toList = b.toList) : a = b := by
  cases a with
  | mk x =>
    cases b with
    | mk y =>
      rw [ByteArray.toList_eq, ByteArray.toList_eq] at h
      exact congrArg ByteArray.mk (Array.toList_inj.1 h)
theorem msr {k n : Nat} (h : k < n) : n - (intOf (.int .i64 ((k : Int) + 1))).toNat < n - (intOf (.int .i64 (k : Int))).toNat := by
  show n - ((k : Int) + 1).toNat < n - ((k : Int)).toNat
  omega
/-- Texts in a row. -/
def NmAt (w : World) (x : Option Addr) (l : List ByteArray) : Prop := (x = none → l = []) ∧ ∀ a, x = some a → ∀ i s, l[i]? = some s → w.cell? (a.add i) = some (.string s)
theorem NmAt.some {w : World} {x : Option Addr} {l : List ByteArray} (h : NmAt w x l) (hl : 0 < l.length) : ∃ a, x = .some a := by
  cases x with
  | none => rw [h.1 rfl] at hl; exact absurd hl (by decide)
  | some a => exact ⟨a, rfl⟩
theorem NmAt.cell {w : World} {a : Addr} {l : List ByteArray} (h : NmAt w (Option.some a) l) (k : Nat) (hk : k < l.length) : ∃ s, l[k]? = Option.some s ∧ w.cell? (a.add k) = Option.some (.string s) := ⟨l[k], List.getElem?_eq_getElem hk, h.2 a rfl k _ (List.getElem?_eq_getElem hk)⟩
theorem NmAt.below {w w' : World} {x : Option Addr} {l : List ByteArray} (h : NmAt w x l) (hb : Below w.heap.size w w') : NmAt w' x l := ⟨h.1, fun a e i s hs => by have c := h.2 a e i s hs; exact (hb.cell (block_lt_of_cell c)).trans c⟩
end Go.Proofs.YtpcjnhffpkpchaaGreat
namespace Go.Proofs.YtpcjnhffpkpchaaGreat
set_option linter.unusedVariables false
open Go.RowKit
/-- What an expression has besides its parts. -/
structure EH where
  op : Int
  pl : Int
  nm : ByteArray
  fd : ByteArray
  vk : Int
  vb : Int
  vs : ByteArray
  kd : Int
  ar : Int
  rf : Int
  fr : Int
  up : Int
/-- An expression: its head, the names of its parts, its parts. -/
inductive Ex where
  | mk (h : EH) (ns : List ByteArray) (l : List Ex)
/-- An expression as a value. -/
abbrev EV (h : EH) (k n : Value) : Value := .agg #[.int .i64 h.op, .int .i64 h.pl, .string h.nm, .string h.fd, .int .u8 h.vk, .int .u64 h.vb, .string h.vs, k, n, .int .u8 h.kd, .int .i64 h.ar, .int .i64 h.rf, .int .i64 h.fr, .int .i64 h.up]
/-- Its cells. -/
structure EcAt (w : World) (p : Addr) (h : EH) (k n : Value) : Prop where
  c0 : w.cell? p = some (.int .i64 h.op)
  c1 : w.cell? ⟨p.block, p.off + 1, none⟩ = some (.int .i64 h.pl)
  c2 : w.cell? ⟨p.block, p.off + 2, none⟩ = some (.string h.nm)
  c3 : w.cell? ⟨p.block, p.off + 3, none⟩ = some (.string h.fd)
  c4 : w.cell? ⟨p.block, p.off + 4, none⟩ = some (.int .u8 h.vk)
  c5 : w.cell? ⟨p.block, p.off + 5, none⟩ = some (.int .u64 h.vb)
  c6 : w.cell? ⟨p.block, p.off + 6, none⟩ = some (.string h.vs)
  c7 : w.cell? ⟨p.block, p.off + 7, none⟩ = some (k)
  c8 : w.cell? ⟨p.block, p.off + 8, none⟩ = some (n)
  c9 : w.cell? ⟨p.block, p.off + 9, none⟩ = some (.int .u8 h.kd)
  c10 : w.cell? ⟨p.block, p.off + 10, none⟩ = some (.int .i64 h.ar)
  c11 : w.cell? ⟨p.block, p.off + 11, none⟩ = some (.int .i64 h.rf)
  c12 : w.cell? ⟨p.block, p.off + 12, none⟩ = some (.int .i64 h.fr)
  c13 : w.cell? ⟨p.block, p.off + 13, none⟩ = some (.int .i64 h.up)
theorem EcAt.below {w w' : World} {p : Addr} {h : EH} {k n : Value} (a : EcAt w p h k n) (hb : Below w.heap.size w w') : EcAt w' p h k n := by
  have z := block_lt_of_cell a.c0
  exact ⟨(hb.cell (p := p) z).trans a.c0, (hb.cell (p := ⟨p.block, p.off + 1, none⟩) z).trans a.c1, (hb.cell (p := ⟨p.block, p.off + 2, none⟩) z).trans a.c2, (hb.cell (p := ⟨p.block, p.off + 3, none⟩) z).trans a.c3, (hb.cell (p := ⟨p.block, p.off + 4, none⟩) z).trans a.c4, (hb.cell (p := ⟨p.block, p.off + 5, none⟩) z).trans a.c5, (hb.cell (p := ⟨p.block, p.off + 6, none⟩) z).trans a.c6, (hb.cell (p := ⟨p.block, p.off + 7, none⟩) z).trans a.c7, (hb.cell (p := ⟨p.block, p.off + 8, none⟩) z).trans a.c8, (hb.cell (p := ⟨p.block, p.off + 9, none⟩) z).trans a.c9, (hb.cell (p := ⟨p.block, p.off + 10, none⟩) z).trans a.c10, (hb.cell (p := ⟨p.block, p.off + 11, none⟩) z).trans a.c11, (hb.cell (p := ⟨p.block, p.off + 12, none⟩) z).trans a.c12, (hb.cell (p := ⟨p.block, p.off + 13, none⟩) z).trans a.c13⟩
/-- Few enough for an int. -/
abbrev few (n : Nat) : Prop := n < 549755813888
/-- An expression at an address; so deep at most. -/
def ExAt : Nat → World → Addr → Ex → Prop
  | 0, _, _, _ => False
  | d + 1, w, p, .mk h ns l => ∃ x c y c', EcAt w p h (.slice x l.length c) (.slice y ns.length c') ∧ NmAt w y ns ∧ few ns.length ∧ few l.length ∧ (x = none → l = []) ∧ ∀ b, x = some b → ∀ i e, l[i]? = some e → ExAt d w (b.add (i * 14)) e
/-- Expressions in a row. -/
def KdAt (d : Nat) (w : World) (x : Option Addr) (l : List Ex) : Prop := few l.length ∧ (x = none → l = []) ∧ ∀ b, x = some b → ∀ i e, l[i]? = some e → ExAt d w (b.add (i * 14)) e
/-- An expression's value, as it is handed on. -/
def EvOk (d : Nat) (w : World) (v : Value) : Ex → Prop
  | .mk h ns l => ∃ x c y c', v = EV h (.slice x l.length c) (.slice y ns.length c') ∧ NmAt w y ns ∧ few ns.length ∧ KdAt d w x l
theorem ExAt.below : ∀ (d : Nat) {w w' : World} {p : Addr} {e : Ex}, ExAt d w p e → Below w.heap.size w w' → ExAt d w' p e
  | 0, _, _, _, _, h, _ => h.elim
  | d + 1, w, w', p, .mk h ns l, ⟨x, c, y, c', hc, hn, f1, f2, h0, hk⟩, hb => ⟨x, c, y, c', hc.below hb, hn.below hb, f1, f2, h0, fun b e i q hq => ExAt.below d (hk b e i q hq) hb⟩
theorem KdAt.below {d : Nat} {w w' : World} {x : Option Addr} {l : List Ex} (h : KdAt d w x l) (hb : Below w.heap.size w w') : KdAt d w' x l := ⟨h.1, h.2.1, fun b e i q hq => ExAt.below d (h.2.2 b e i q hq) hb⟩
theorem EvOk.below {d : Nat} {w w' : World} {v : Value} {e : Ex} (h : EvOk d w v e) (hb : Below w.heap.size w w') : EvOk d w' v e := by
  cases e with
  | mk hd ns l =>
    obtain ⟨x, c, y, c', e, hn, f, hk⟩ := h
    exact ⟨x, c, y, c', e, hn.below hb, f, hk.below hb⟩
/-- What an element of a row reads as. -/
theorem KdAt.el {d : Nat} {w : World} {b : Addr} {l : List Ex} (h : KdAt (d + 1) w (some b) l) (i : Nat) (hi : i < l.length) : ∃ hd ns l' x c y c', l[i]? = some (.mk hd ns l') ∧ EcAt w (b.add (i * 14)) hd (.slice x l'.length c) (.slice y ns.length c') ∧ EvOk d w (EV hd (.slice x l'.length c) (.slice y ns.length c')) (.mk hd ns l') := by
  have a := h.2.2 b rfl i l[i] (List.getElem?_eq_getElem hi)
  cases e : l[i] with
  | mk hd ns l' =>
    rw [e] at a
    obtain ⟨x, c, y, c', hc, hn, f1, f2, h0, hk⟩ := a
    exact ⟨hd, ns, l', x, c, y, c', by rw [List.getElem?_eq_getElem hi, e], hc, x, c, y, c', rfl, hn, f1, f2, h0, hk⟩
theorem KdAt.none0 {w : World} {x : Option Addr} {l : List Ex} (h : KdAt 0 w x l) : l = [] := by
  cases x with
  | none => exact h.2.1 rfl
  | some b =>
    cases l with
    | nil => rfl
    | cons e l => exact (h.2.2 b rfl 0 e rfl).elim
/-- Are two rows the same, by what tells it of two? -/
def smL {α : Type} (f : α → α → Bool) : List α → List α → Bool
  | [], [] => true
  | a :: l, b :: l' => f a b && smL f l l'
  | [], _ :: _ => false
  | _ :: _, [] => false
theorem smL_len {α : Type} (f : α → α → Bool) : ∀ l l' : List α, ¬ l.length = l'.length → smL f l l' = false
  | [], [], h => absurd rfl h
  | a :: l, b :: l', h => by simp [smL, smL_len f l l' (fun e => h (by simp [e]))]
  | [], _ :: _, _ => rfl
  | _ :: _, [], _ => rfl
theorem smL_all {α : Type} (f : α → α → Bool) : ∀ l l' : List α, l.length = l'.length → (∀ (i : Nat) e e', l[i]? = some e → l'[i]? = some e' → f e e' = true) → smL f l l' = true
  | [], [], _, _ => rfl
  | a :: l, b :: l', h, k => by
    have h0 := k 0 a b rfl rfl
    have ih := smL_all f l l' (by simpa using h) (fun i e e' x y => k (i + 1) e e' (by simpa using x) (by simpa using y))
    simp [smL, h0, ih]
  | [], _ :: _, h, _ => absurd h (by simp)
  | _ :: _, [], h, _ => absurd h (by simp)
theorem smL_bad {α : Type} (f : α → α → Bool) : ∀ (l l' : List α) (i : Nat) (e e' : α), l[i]? = some e → l'[i]? = some e' → f e e' = false → smL f l l' = false
  | [], _, i, _, _, h, _, _ => by simp at h
  | _ :: _, [], i, _, _, _, h, _ => by simp at h
  | a :: l, b :: l', 0, e, e', h, k, q => by
    simp at h k
    subst h k
    simp [smL, q]
  | a :: l, b :: l', i + 1, e, e', h, k, q => by
    have := smL_bad f l l' i e e' (by simpa using h) (by simpa using k) q
    simp [smL, this]
def hdS (h h' : EH) : Bool := decide (h.op = h'.op ∧ h.nm = h'.nm ∧ h.fd = h'.fd ∧ h.vk = h'.vk ∧ h.vb = h'.vb ∧ h.vs = h'.vs)
def smE : Nat → Ex → Ex → Bool
  | 0, _, _ => false
  | d + 1, .mk h ns l, .mk h' ns' l' => hdS h h' && decide (ns = ns') && smL (smE d) l l'
end Go.Proofs.YtpcjnhffpkpchaaGreat
namespace Go.Proofs.YtpcjnhffpkpchaaGreat
set_option linter.unusedVariables false
open Go.RowKit
def tcL (l : List ByteArray) : List Value := l.map Value.string
theorem infoT : ∃ i, Tryz.prog.info? 9 = some i ∧ i.zero = some (.string ⟨#[]⟩) ∧ i.size = 1 ∧ i.bytes = 16 := by
  obtain ⟨i, hi, hz⟩ := Option.map_eq_some_iff.1 (show (Tryz.prog.info? 9).map (fun i => (i.zero, i.size, i.bytes)) = some (some (.string ⟨#[]⟩), 1, 16) by kernel_rfl)
  simp only [Prod.mk.injEq] at hz
  exact ⟨i, hi, hz.1, hz.2.1, hz.2.2⟩
theorem ownt_none (w : World) : (w.alloc (.cells #[] 9)).ownsRow w.heap.size 9 1 (.slice (some ⟨w.heap.size, 0, none⟩) 0 0) 0 [] :=
  ⟨rfl, .inr ⟨w.heap.size, 0, #[], rfl, Nat.le_refl _, heap_alloc_last w _, Nat.le_refl _, Nat.zero_le _, rfl, rfl⟩⟩
theorem ownB' {w : World} {base : Nat} {e : TypeId} {size : Nat} {x : Value} {n : Nat} {xs : List Value} (h : w.ownsRow base e size x n xs) {g : Nat} (hg : x.ownBlock = some g) : base ≤ g := by
  obtain ⟨_, h2⟩ := h
  rcases h2 with ⟨rfl, _⟩ | ⟨g2, cap, cur, rfl, hb, _⟩
  · simp [Value.ownBlock] at hg
  · simp [Value.ownBlock] at hg; omega
theorem own_nm {w : World} {base : Nat} {x : Value} {l : List ByteArray} (h : w.ownsRow base 9 1 x l.length (tcL l)) : ∃ y c, x = .slice y l.length c ∧ NmAt w y l := by
  obtain ⟨h1, h2⟩ := h
  rcases h2 with ⟨e, e'⟩ | ⟨g, cap, cur, e, hb, hg, hc, hm, hs, ht⟩
  · have : l = [] := List.length_eq_zero_iff.1 e'
    subst this
    exact ⟨none, 0, e, fun _ => rfl, fun a q => by cases q⟩
  · refine ⟨_, _, e, fun q => (by cases q), fun a q i s hs' => ?_⟩
    cases q
    have il : i < l.length := (List.getElem?_eq_some_iff.1 hs').1
    have a : (tcL l)[i]? = some (.string s) := by unfold tcL; rw [List.getElem?_map, hs']; rfl
    rw [← ht, List.getElem?_take_of_lt (by omega)] at a
    have e : (⟨g, 0, none⟩ : Addr).add i = ⟨g, i, none⟩ := by unfold Addr.add; split <;> simp_all
    rw [e]
    simp only [World.cell?, hg]
    simpa using a
end Go.Proofs.YtpcjnhffpkpchaaGreat
namespace Go.Proofs.YtpcjnhffpkpchaaGreat
set_option linter.unusedVariables false
open Go.RowKit
/-- The blocks that S names hold what they held. -/
def FrS (S : Nat → Prop) (w w' : World) : Prop := ∀ q : Addr, S q.block → w'.cell? q = w.cell? q
/-- Texts in a row whose cells lie in S. -/
def NmF (S : Nat → Prop) (w : World) (y : Option Addr) (ns : List ByteArray) : Prop := NmAt w y ns ∧ ∀ a, y = some a → ∀ (i : Nat) s, ns[i]? = some s → S a.block
/-- An expression at an address, all its cells in S. -/
def ExF (S : Nat → Prop) : Nat → World → Addr → Ex → Prop
  | 0, _, _, _ => False
  | d + 1, w, p, .mk h ns l => S p.block ∧ ∃ x c y c', EcAt w p h (.slice x l.length c) (.slice y ns.length c') ∧ NmF S w y ns ∧ few ns.length ∧ few l.length ∧ (x = none → l = []) ∧ ∀ b, x = some b → ∀ i e, l[i]? = some e → ExF S d w (b.add (i * 14)) e
def KdF (S : Nat → Prop) (d : Nat) (w : World) (x : Option Addr) (l : List Ex) : Prop := few l.length ∧ (x = none → l = []) ∧ ∀ b, x = some b → ∀ i e, l[i]? = some e → ExF S d w (b.add (i * 14)) e
def EvF (S : Nat → Prop) (d : Nat) (w : World) (v : Value) : Ex → Prop
  | .mk h ns l => ∃ x c y c', v = EV h (.slice x l.length c) (.slice y ns.length c') ∧ NmF S w y ns ∧ few ns.length ∧ KdF S d w x l
theorem add_block (a : Addr) (i : Nat) : (a.add i).block = a.block := by unfold Addr.add; split <;> rfl
theorem NmF.fr {S : Nat → Prop} {w w' : World} {y : Option Addr} {ns : List ByteArray} (h : NmF S w y ns) (f : FrS S w w') : NmF S w' y ns :=
  ⟨⟨h.1.1, fun a e i s hs => (f _ (by rw [add_block]; exact h.2 a e i s hs)).trans (h.1.2 a e i s hs)⟩, h.2⟩
theorem EcAt.fr {S : Nat → Prop} {w w' : World} {p : Addr} {h : EH} {k n : Value} (a : EcAt w p h k n) (f : FrS S w w') (hp : S p.block) : EcAt w' p h k n :=
  ⟨(f _ hp).trans a.c0, (f ⟨p.block, p.off + 1, none⟩ hp).trans a.c1, (f ⟨p.block, p.off + 2, none⟩ hp).trans a.c2, (f ⟨p.block, p.off + 3, none⟩ hp).trans a.c3, (f ⟨p.block, p.off + 4, none⟩ hp).trans a.c4, (f ⟨p.block, p.off + 5, none⟩ hp).trans a.c5, (f ⟨p.block, p.off + 6, none⟩ hp).trans a.c6, (f ⟨p.block, p.off + 7, none⟩ hp).trans a.c7, (f ⟨p.block, p.off + 8, none⟩ hp).trans a.c8, (f ⟨p.block, p.off + 9, none⟩ hp).trans a.c9, (f ⟨p.block, p.off + 10, none⟩ hp).trans a.c10, (f ⟨p.block, p.off + 11, none⟩ hp).trans a.c11, (f ⟨p.block, p.off + 12, none⟩ hp).trans a.c12, (f ⟨p.block, p.off + 13, none⟩ hp).trans a.c13⟩
theorem ExF.fr {S : Nat → Prop} : ∀ (d : Nat) {w w' : World} {p : Addr} {e : Ex}, ExF S d w p e → FrS S w w' → ExF S d w' p e
  | 0, _, _, _, _, h, _ => h.elim
  | d + 1, w, w', p, .mk h ns l, ⟨hp, x, c, y, c', hc, hn, f1, f2, h0, hk⟩, f => ⟨hp, x, c, y, c', hc.fr f hp, hn.fr f, f1, f2, h0, fun b e i q hq => ExF.fr d (hk b e i q hq) f⟩
theorem ExF.sub {S T : Nat → Prop} (hST : ∀ b, S b → T b) : ∀ (d : Nat) {w : World} {p : Addr} {e : Ex}, ExF S d w p e → ExF T d w p e
  | 0, _, _, _, h => h.elim
  | d + 1, w, p, .mk h ns l, ⟨hp, x, c, y, c', hc, hn, f1, f2, h0, hk⟩ => ⟨hST _ hp, x, c, y, c', hc, ⟨hn.1, fun a e i s q => hST _ (hn.2 a e i s q)⟩, f1, f2, h0, fun b e i q hq => ExF.sub hST d (hk b e i q hq)⟩
theorem ExF.at {S : Nat → Prop} : ∀ (d : Nat) {w : World} {p : Addr} {e : Ex}, ExF S d w p e → ExAt d w p e
  | 0, _, _, _, h => h.elim
  | d + 1, w, p, .mk h ns l, ⟨hp, x, c, y, c', hc, hn, f1, f2, h0, hk⟩ => ⟨x, c, y, c', hc, hn.1, f1, f2, h0, fun b e i q hq => ExF.at d (hk b e i q hq)⟩
theorem KdF.fr {S : Nat → Prop} {d : Nat} {w w' : World} {x : Option Addr} {l : List Ex} (h : KdF S d w x l) (f : FrS S w w') : KdF S d w' x l := ⟨h.1, h.2.1, fun b e i q hq => ExF.fr d (h.2.2 b e i q hq) f⟩
theorem KdF.sub {S T : Nat → Prop} (hST : ∀ b, S b → T b) {d : Nat} {w : World} {x : Option Addr} {l : List Ex} (h : KdF S d w x l) : KdF T d w x l := ⟨h.1, h.2.1, fun b e i q hq => ExF.sub hST d (h.2.2 b e i q hq)⟩
theorem KdF.at {S : Nat → Prop} {d : Nat} {w : World} {x : Option Addr} {l : List Ex} (h : KdF S d w x l) : KdAt d w x l := ⟨h.1, h.2.1, fun b e i q hq => ExF.at d (h.2.2 b e i q hq)⟩
theorem EvF.fr {S : Nat → Prop} {d : Nat} {w w' : World} {v : Value} {e : Ex} (h : EvF S d w v e) (f : FrS S w w') : EvF S d w' v e := by
  cases e with
  | mk hd ns l =>
    obtain ⟨x, c, y, c', e, hn, q, hk⟩ := h
    exact ⟨x, c, y, c', e, hn.fr f, q, hk.fr f⟩
theorem EvF.sub {S T : Nat → Prop} (hST : ∀ b, S b → T b) {d : Nat} {w : World} {v : Value} {e : Ex} (h : EvF S d w v e) : EvF T d w v e := by
  cases e with
  | mk hd ns l =>
    obtain ⟨x, c, y, c', e, hn, q, hk⟩ := h
    exact ⟨x, c, y, c', e, ⟨hn.1, fun a e i s q => hST _ (hn.2 a e i s q)⟩, q, hk.sub hST⟩
theorem EvF.at {S : Nat → Prop} {d : Nat} {w : World} {v : Value} {e : Ex} (h : EvF S d w v e) : EvOk d w v e := by
  cases e with
  | mk hd ns l =>
    obtain ⟨x, c, y, c', e, hn, q, hk⟩ := h
    exact ⟨x, c, y, c', e, hn.1, q, hk.at⟩
/-- The blocks made between two worlds. -/
def Fresh (a b : Nat) : Nat → Prop := fun g => a ≤ g ∧ g < b
theorem fresh_fr {a b : Nat} {w w' : World} (hb : Below w.heap.size w w') (h : b ≤ w.heap.size) : FrS (Fresh a b) w w' := fun q hq => hb.cell (Nat.lt_of_lt_of_le hq.2 h)
theorem own_nmF {w : World} {base : Nat} {x : Value} {l : List ByteArray} (h : w.ownsRow base 9 1 x l.length (tcL l)) : ∃ y c, x = .slice y l.length c ∧ NmF (Fresh base w.heap.size) w y l := by
  obtain ⟨y, c, hx, hn⟩ := own_nm h
  refine ⟨y, c, hx, hn, fun a e i s hs => ⟨?_, ?_⟩⟩
  · subst e hx
    obtain ⟨_, h2⟩ := h
    rcases h2 with ⟨h3, _⟩ | ⟨g, cap, cur, h3, hb, _⟩
    · cases h3
    · cases h3; exact hb
  · have z := block_lt_of_cell (hn.2 a e i s hs)
    rwa [add_block] at z
end Go.Proofs.YtpcjnhffpkpchaaGreat
namespace Go.Proofs.YtpcjnhffpkpchaaGreat
set_option linter.unusedVariables false
open Go.RowKit
theorem ad_off (a : Addr) (i j : Nat) : (a.add i).add j = a.add (i + j) := by
  unfold Addr.add
  by_cases hi : i = 0 <;> by_cases hj : j = 0 <;> simp [hi, hj, Nat.add_assoc]
theorem ad_pos (a : Addr) (j : Nat) : a.add (j + 1) = ⟨a.block, a.off + (j + 1), none⟩ := by
  unfold Addr.add; rw [if_neg (by omega)]
theorem ad_zero (a : Addr) : a.add 0 = a := by simp [Addr.add]
/-- Cells one behind another from an address on. -/
def CsAt (w : World) (p : Addr) (vs : List Value) : Prop := ∀ (j : Nat) v, vs[j]? = some v → w.cell? (p.add j) = some v
theorem CsAt.fr {S : Nat → Prop} {w w' : World} {p : Addr} {vs : List Value} (h : CsAt w p vs) (f : FrS S w w') (hp : S p.block) : CsAt w' p vs :=
  fun j v hv => (f _ (by rw [add_block]; exact hp)).trans (h j v hv)
theorem CsAt.c0 {w : World} {p : Addr} {v : Value} {vs : List Value} (h : CsAt w p (v :: vs)) : w.cell? p = some v := by have := h 0 v rfl; rwa [ad_zero] at this
theorem CsAt.cp {w : World} {p : Addr} {vs : List Value} (h : CsAt w p vs) (j : Nat) (v : Value) (hv : vs[j + 1]? = some v) : w.cell? ⟨p.block, p.off + (j + 1), none⟩ = some v := by have := h (j + 1) v hv; rwa [ad_pos] at this
/-- Records in a row, each of n cells; P tells the cells. -/
def RwF {α : Type} (n : Nat) (P : α → List Value → Prop) (S : Nat → Prop) (w : World) (x : Option Addr) (l : List α) : Prop :=
  few l.length ∧ (x = none → l = []) ∧ ∀ a, x = some a → ∀ (i : Nat) e, l[i]? = some e → S a.block ∧ ∃ vs, P e vs ∧ CsAt w (a.add (i * n)) vs
section
variable {α : Type} {n : Nat} {P : α → List Value → Prop} {S : Nat → Prop} {w w' : World} {x : Option Addr} {l : List α}
theorem RwF.fr (h : RwF n P S w x l) (f : FrS S w w') : RwF n P S w' x l :=
  ⟨h.1, h.2.1, fun a e i t ht => by obtain ⟨h1, vs, h2, h3⟩ := h.2.2 a e i t ht; exact ⟨h1, vs, h2, h3.fr f (by rw [add_block]; exact h1)⟩⟩
theorem RwF.sub {T : Nat → Prop} (hST : ∀ b, S b → T b) (h : RwF n P S w x l) : RwF n P T w x l :=
  ⟨h.1, h.2.1, fun a e i t ht => by obtain ⟨h1, q⟩ := h.2.2 a e i t ht; exact ⟨hST _ h1, q⟩⟩
theorem RwF.imp {P' : α → List Value → Prop} (hP : ∀ e vs, e ∈ l → P e vs → P' e vs) (h : RwF n P S w x l) : RwF n P' S w x l :=
  ⟨h.1, h.2.1, fun a e i t ht => by obtain ⟨h1, vs, h2, h3⟩ := h.2.2 a e i t ht; exact ⟨h1, vs, hP t vs (List.mem_of_getElem? ht) h2, h3⟩⟩
theorem RwF.some (h : RwF n P S w x l) (hl : 0 < l.length) : ∃ a, x = .some a := by
  cases x with
  | none => rw [h.2.1 rfl] at hl; simp at hl
  | some a => exact ⟨a, rfl⟩
theorem RwF.el {a : Addr} (h : RwF n P S w (.some a) l) (i : Nat) (hi : i < l.length) : ∃ e vs, l[i]? = .some e ∧ S a.block ∧ P e vs ∧ CsAt w (a.add (i * n)) vs := by
  obtain ⟨h1, vs, h2, h3⟩ := h.2.2 a rfl i l[i] (List.getElem?_eq_getElem hi)
  exact ⟨l[i], vs, List.getElem?_eq_getElem hi, h1, h2, h3⟩
theorem RwF.nil (n : Nat) (P : α → List Value → Prop) (S : Nat → Prop) (w : World) : RwF n P S w none [] := ⟨by simp, fun _ => rfl, fun a e => by cases e⟩
end
theorem flat_at {n : Nat} : ∀ (vss : List (List Value)) (i j : Nat) (vs : List Value), (∀ v ∈ vss, v.length = n) → vss[i]? = some vs → j < n → vss.flatten[i * n + j]? = vs[j]?
  | [], i, j, vs, _, h, _ => by simp at h
  | a :: vss, 0, j, vs, hn, h, hj => by
    simp at h
    subst h
    rw [List.flatten_cons, List.getElem?_append_left (by rw [hn a (by simp)]; omega)]
    simp
  | a :: vss, i + 1, j, vs, hn, h, hj => by
    have := flat_at vss i j vs (fun v hv => hn v (by simp [hv])) (by simpa using h) hj
    have ha : a.length = n := hn a (by simp)
    rw [List.flatten_cons, List.getElem?_append_right (by rw [ha, Nat.add_mul]; omega)]
    rw [show (i + 1) * n + j - a.length = i * n + j by rw [ha, Nat.add_mul]; omega]
    exact this
theorem flat_len {n : Nat} : ∀ (vss : List (List Value)), (∀ v ∈ vss, v.length = n) → vss.flatten.length = vss.length * n
  | [], _ => by simp
  | a :: vss, hn => by
    have := flat_len vss (fun v hv => hn v (by simp [hv]))
    have ha : a.length = n := hn a (by simp)
    rw [List.flatten_cons, List.length_append, this, ha, List.length_cons, Nat.add_mul]
    omega
theorem flat_ex {n : Nat} (vss : List (List Value)) (hn : ∀ v ∈ vss, v.length = n) (j : Nat) (u : Value) (h : vss.flatten[j]? = some u) : ∃ i r vs, vss[i]? = some vs ∧ j = i * n + r ∧ vs[r]? = some u := by
  have hj := (List.getElem?_eq_some_iff.1 h).1
  rw [flat_len vss hn] at hj
  have n0 : 0 < n := by
    rcases Nat.eq_zero_or_pos n with q | q
    · subst q; simp at hj
    · exact q
  have hi : j / n < vss.length := by rw [Nat.div_lt_iff_lt_mul n0]; exact hj
  have ej : j = j / n * n + j % n := by rw [Nat.mul_comm]; exact (Nat.div_add_mod j n).symm
  refine ⟨j / n, j % n, vss[j / n], List.getElem?_eq_getElem hi, ej, ?_⟩
  rw [← flat_at vss (j / n) (j % n) _ hn (List.getElem?_eq_getElem hi) (Nat.mod_lt _ n0), ← ej]
  exact h
/-- A row of one's own, read row by row. -/
theorem own_rows {w : World} {base : Nat} {T : TypeId} {n k : Nat} {x : Value} {vss : List (List Value)} (h : w.ownsRow base T n x k vss.flatten) (hn : ∀ v ∈ vss, v.length = n) (hk : vss.length = k) :
    ∃ y c, x = .slice y k c ∧ (y = none → k = 0) ∧ ∀ a, y = some a → Fresh base w.heap.size a.block ∧ x.ownBlock = some a.block ∧ ∀ (i : Nat) vs, vss[i]? = some vs → CsAt w (a.add (i * n)) vs := by
  have hc := fun g (hg : x.ownBlock = some g) => h.cells hg
  have hl := h.lt
  obtain ⟨_, h2⟩ := h
  rcases h2 with ⟨e, e'⟩ | ⟨g, cap, cur, e, _⟩
  · subst e'
    exact ⟨none, 0, e, fun _ => rfl, fun a q => by cases q⟩
  · subst e
    refine ⟨_, _, rfl, fun q => (by cases q), fun a q => ?_⟩
    cases q
    refine ⟨hl g rfl, rfl, fun i vs hvs j u hu => ?_⟩
    have lj : j < n := by have := (List.getElem?_eq_some_iff.1 hu).1; rw [hn vs (List.mem_of_getElem? hvs)] at this; exact this
    have := hc g rfl (i * n + j) u (by rw [flat_at vss i j vs hn hvs lj]; exact hu)
    rwa [ad_off]
/-- What tells a record's cells is kept where the blocks of S are. -/
structure Kept {α : Type} (P : (Nat → Prop) → World → α → List Value → Prop) : Prop where
  fr : ∀ {S : Nat → Prop} {w w' : World} {e : α} {vs : List Value}, P S w e vs → FrS S w w' → P S w' e vs
  sub : ∀ {S T : Nat → Prop} {w : World} {e : α} {vs : List Value}, (∀ b, S b → T b) → P S w e vs → P T w e vs
/-- So many are made. -/
def MkI {α : Type} (T : TypeId) (n : Nat) (P : (Nat → Prop) → World → α → List Value → Prop) (base : Nat) (l : List α) (k : Nat) (out : Value) (wr : World) : Prop :=
  ∃ vss : List (List Value), vss.length = k ∧ (∀ v ∈ vss, v.length = n) ∧ wr.ownsRow base T n out k vss.flatten ∧
    ∀ (i : Nat) vs e, vss[i]? = some vs → l[i]? = some e → P (fun b => Fresh base wr.heap.size b ∧ out.ownBlock ≠ some b) wr e vs
section
variable {α : Type} {T : TypeId} {n base k : Nat} {P : (Nat → Prop) → World → α → List Value → Prop} {l : List α} {out out' : Value} {wr W w7 : World}
theorem MkI.zero (T : TypeId) (n base : Nat) (P : (Nat → Prop) → World → α → List Value → Prop) (l : List α) (w : World) : MkI T n P base l 0 (.slice none 0 0) w := ⟨[], rfl, fun v hv => (by cases hv), World.ownsRow_nil _ _ _ _, fun i t e h => by simp at h⟩
theorem MkI.step (K : Kept P) {vss : List (List Value)} (el : vss.length = k) (hn : ∀ v ∈ vss, v.length = n)
    (hf : ∀ (i : Nat) vs e, vss[i]? = some vs → l[i]? = some e → P (fun b => Fresh base wr.heap.size b ∧ out.ownBlock ≠ some b) wr e vs)
    (hlt : ∀ g, out.ownBlock = some g → base ≤ g ∧ g < wr.heap.size)
    (vs : List Value) (e : α) (he : l[k]? = some e) (hvn : vs.length = n) (s0 : base ≤ wr.heap.size) (b5 : Below wr.heap.size wr W)
    (hv : P (Fresh wr.heap.size W.heap.size) W e vs) (hg : W.grownBy w7 out.ownBlock)
    (ho : w7.ownsRow base T n out' (k + 1) (vss.flatten ++ vs)) (hb : out'.ownBlock = out.ownBlock ∨ out'.ownBlock = some W.heap.size) : MkI T n P base l (k + 1) out' w7 := by
  have s5 := b5.size
  have s7 := hg.size
  have ne : ∀ b, b < W.heap.size → out.ownBlock ≠ some b → out'.ownBlock ≠ some b := fun b h1 h2 h3 => by
    rcases hb with q | q
    · exact h2 (q ▸ h3)
    · rw [q] at h3; simp at h3; omega
  refine ⟨vss ++ [vs], by simp [el], fun v hv => ?_, by rw [List.flatten_append]; simpa using ho, fun i t' e' ht hl => ?_⟩
  · rcases List.mem_append.1 hv with q | q
    · exact hn v q
    · rw [List.mem_singleton.1 q]; exact hvn
  by_cases hi : i < k
  · rw [List.getElem?_append_left (by omega)] at ht
    have h := hf i t' e' ht hl
    refine K.sub (fun b hb => ⟨⟨hb.1.1, by have := hb.1.2; omega⟩, ne b (by have := hb.1.2; omega) hb.2⟩) (K.fr (w' := w7) h fun q hq => ?_)
    have q2 := hq.1.2
    refine World.cell?_of_block ?_
    exact (hg.block _ (by omega) (fun h => hq.2 h.symm)).trans (b5.block _ q2)
  · have ik : i = k := by
      have := (List.getElem?_eq_some_iff.1 ht).1
      simp at this
      omega
    subst ik
    rw [List.getElem?_append_right (by omega), el] at ht
    simp at ht
    subst ht
    rw [he] at hl
    cases hl
    have no : ∀ b, wr.heap.size ≤ b → out.ownBlock ≠ some b := fun b h1 h2 => by have := (hlt b h2).2; omega
    refine K.sub (fun b hb => ⟨⟨by have := hb.1; omega, by have := hb.2; omega⟩, ne b (by have := hb.2; omega) (no b hb.1)⟩) (K.fr (w' := w7) hv fun q hq => ?_)
    have q1 := hq.1
    have q2 := hq.2
    refine World.cell?_of_block ?_
    exact hg.block _ (by omega) (fun h => no _ q1 h.symm)
/-- The row that was made. -/
theorem MkI.done (K : Kept P) (h : MkI T n P base l l.length out wr) (hf : few l.length) : ∃ y c, out = .slice y l.length c ∧ RwF n (P (Fresh base wr.heap.size) wr) (Fresh base wr.heap.size) wr y l := by
  obtain ⟨vss, el, hn, ho, hv⟩ := h
  obtain ⟨y, c, e, h0, ha⟩ := own_rows ho hn el
  refine ⟨y, c, e, hf, fun q => List.length_eq_zero_iff.1 (h0 q), fun a q i t ht => ?_⟩
  obtain ⟨h1, h2, h3⟩ := ha a q
  have il : i < l.length := (List.getElem?_eq_some_iff.1 ht).1
  obtain ⟨vs, hvs⟩ : ∃ vs, vss[i]? = some vs := ⟨_, List.getElem?_eq_getElem (by omega)⟩
  exact ⟨h1, vs, K.sub (fun b hb => hb.1) (hv i vs t hvs ht), h3 i vs hvs⟩
end
/-- The cells of records that lie in cells of their own. -/
abbrev Is {α : Type} (cs : α → List Value) : α → List Value → Prop := fun e vs => vs = cs e
section
variable {α : Type} {n : Nat} {cs : α → List Value} {S : Nat → Prop} {w : World} {l : List α} {a : Addr}
theorem RwF.flat (hn : ∀ e, (cs e).length = n) (h : RwF n (Is cs) S w (.some a) l) : ∀ (j : Nat) u, (l.map cs).flatten[j]? = .some u → w.cell? (a.add j) = .some u := by
  intro j u hu
  obtain ⟨i, r, vs, h1, rfl, h3⟩ := flat_ex (n := n) (l.map cs) (by intro v hv; obtain ⟨e, _, rfl⟩ := List.mem_map.1 hv; exact hn e) j u hu
  rw [List.getElem?_map] at h1
  obtain ⟨e, he, rfl⟩ := Option.map_eq_some_iff.1 h1
  obtain ⟨_, vs, rfl, hc⟩ := h.2.2 a rfl i e he
  have := hc r u h3
  rwa [ad_off] at this
theorem own_rw (hn : ∀ e, (cs e).length = n) {T : TypeId} {base : Nat} {x : Value} (h : w.ownsRow base T n x l.length (l.map cs).flatten) (hf : few l.length) : ∃ y c, x = .slice y l.length c ∧ RwF n (Is cs) (Fresh base w.heap.size) w y l := by
  obtain ⟨y, c, e, h0, ha⟩ := own_rows h (by intro v hv; obtain ⟨e, _, rfl⟩ := List.mem_map.1 hv; exact hn e) (by simp)
  refine ⟨y, c, e, hf, fun q => List.length_eq_zero_iff.1 (h0 q), fun a q i t ht => ?_⟩
  obtain ⟨h1, h2, h3⟩ := ha a q
  exact ⟨h1, cs t, rfl, h3 i (cs t) (by rw [List.getElem?_map, ht]; rfl)⟩
end
theorem RwF.old {α : Type} {n : Nat} {P : α → List Value → Prop} {w W : World} {x : Option Addr} {l : List α} (h : RwF n P (fun b => b < w.heap.size) w x l) (hb : Below w.heap.size w W) : RwF n P (fun b => b < W.heap.size) W x l := (h.fr (fun q hq => hb.cell hq)).sub fun b q => Nat.lt_of_lt_of_le q hb.size
end Go.Proofs.YtpcjnhffpkpchaaGreat
namespace Go.Proofs.YtpcjnhffpkpchaaGreat
set_option linter.unusedVariables false
open Go.RowKit
/-- A cell. -/
structure CeR where
  kd : Int
  sb : Bool
  lo : Int
  hi : Int
  mx : Int
  ik : Int
  ib : Int
  is : ByteArray
  kp : Bool
  dr : Int
  ad : ByteArray
/-- An instruction. -/
structure OpR where
  cd : Int
  a : Int
  b : Int
  c : Int
  d : Int
  lo : Int
  hi : Int
  vk : Int
  vb : Int
  vs : ByteArray
/-- A loop. -/
structure LpR where
  hd : Int
  en : Int
  tm : Int
/-- A code. -/
structure FlR where
  nm : ByteArray
  wh : Int
  ce : Int
  ba : Int
  rg : Int
  sl : Int
  os : List OpR
  ls : List LpR
/-- A task. -/
structure JbR where
  nm : ByteArray
  iv : Int
  sg : Int
  pr : Int
  cs : List Int
  bs : List Int
  bd : Int
/-- An image. -/
structure ImR where
  nm : ByteArray
  cs : List CeR
  fs : List FlR
  js : List JbR
abbrev ceC (c : CeR) : List Value := [.int .u8 c.kd, .bool c.sb, .int .i64 c.lo, .int .i64 c.hi, .int .i64 c.mx, .int .u8 c.ik, .int .u64 c.ib, .string c.is, .bool c.kp, .int .i64 c.dr, .string c.ad]
abbrev opC (o : OpR) : List Value := [.int .i64 o.cd, .int .i64 o.a, .int .i64 o.b, .int .i64 o.c, .int .i64 o.d, .int .i64 o.lo, .int .i64 o.hi, .int .u8 o.vk, .int .u64 o.vb, .string o.vs]
abbrev lpC (l : LpR) : List Value := [.int .i64 l.hd, .int .i64 l.en, .int .i64 l.tm]
abbrev inC (n : Int) : List Value := [.int .i64 n]
/-- The cells of a code. -/
abbrev flC (f : FlR) (o l : Value) : List Value := [.string f.nm, .int .i64 f.wh, .int .i64 f.ce, .int .i64 f.ba, .int .i64 f.rg, .int .i64 f.sl, o, l]
abbrev jbC (j : JbR) (c b : Value) : List Value := [.string j.nm, .int .i64 j.iv, .int .i64 j.sg, .int .i64 j.pr, c, b, .int .i64 j.bd]
abbrev imC (m : ImR) (c f j : Value) : List Value := [.string m.nm, c, f, j]
/-- A code's parts. -/
def FlQ (S : Nat → Prop) (w : World) (f : FlR) (x1 x2 : Option Addr) : Prop := RwF 10 (Is opC) S w x1 f.os ∧ RwF 3 (Is lpC) S w x2 f.ls
def FlP (S : Nat → Prop) (w : World) (f : FlR) (vs : List Value) : Prop := ∃ x1 c1 x2 c2, vs = flC f (.slice x1 f.os.length c1) (.slice x2 f.ls.length c2) ∧ FlQ S w f x1 x2
/-- A task's parts. -/
def JbQ (S : Nat → Prop) (w : World) (j : JbR) (x1 x2 : Option Addr) : Prop := RwF 1 (Is inC) S w x1 j.cs ∧ RwF 1 (Is inC) S w x2 j.bs
def JbP (S : Nat → Prop) (w : World) (j : JbR) (vs : List Value) : Prop := ∃ x1 c1 x2 c2, vs = jbC j (.slice x1 j.cs.length c1) (.slice x2 j.bs.length c2) ∧ JbQ S w j x1 x2
/-- An image's parts. -/
def ImQ (S : Nat → Prop) (w : World) (m : ImR) (x1 x2 x3 : Option Addr) : Prop := RwF 11 (Is ceC) S w x1 m.cs ∧ RwF 8 (FlP S w) S w x2 m.fs ∧ RwF 7 (JbP S w) S w x3 m.js
theorem FlQ.fr {S : Nat → Prop} {w w' : World} {f : FlR} {x1 x2 : Option Addr} (h : FlQ S w f x1 x2) (k : FrS S w w') : FlQ S w' f x1 x2 := ⟨h.1.fr k, h.2.fr k⟩
theorem FlQ.sub {S T : Nat → Prop} (hST : ∀ b, S b → T b) {w : World} {f : FlR} {x1 x2 : Option Addr} (h : FlQ S w f x1 x2) : FlQ T w f x1 x2 := ⟨h.1.sub hST, h.2.sub hST⟩
theorem JbQ.fr {S : Nat → Prop} {w w' : World} {f : JbR} {x1 x2 : Option Addr} (h : JbQ S w f x1 x2) (k : FrS S w w') : JbQ S w' f x1 x2 := ⟨h.1.fr k, h.2.fr k⟩
theorem JbQ.sub {S T : Nat → Prop} (hST : ∀ b, S b → T b) {w : World} {f : JbR} {x1 x2 : Option Addr} (h : JbQ S w f x1 x2) : JbQ T w f x1 x2 := ⟨h.1.sub hST, h.2.sub hST⟩
theorem keptF : Kept FlP where
  fr := fun ⟨x1, c1, x2, c2, e, h⟩ k => ⟨x1, c1, x2, c2, e, h.fr k⟩
  sub := fun hST ⟨x1, c1, x2, c2, e, h⟩ => ⟨x1, c1, x2, c2, e, h.sub hST⟩
theorem keptJ : Kept JbP where
  fr := fun ⟨x1, c1, x2, c2, e, h⟩ k => ⟨x1, c1, x2, c2, e, h.fr k⟩
  sub := fun hST ⟨x1, c1, x2, c2, e, h⟩ => ⟨x1, c1, x2, c2, e, h.sub hST⟩
theorem RwF.frK {α : Type} {n : Nat} {P : (Nat → Prop) → World → α → List Value → Prop} (K : Kept P) {S : Nat → Prop} {w w' : World} {x : Option Addr} {l : List α} (h : RwF n (P S w) S w x l) (f : FrS S w w') : RwF n (P S w') S w' x l := (h.fr f).imp fun e vs _ q => K.fr q f
theorem RwF.subK {α : Type} {n : Nat} {P : (Nat → Prop) → World → α → List Value → Prop} (K : Kept P) {S T : Nat → Prop} (hST : ∀ b, S b → T b) {w : World} {x : Option Addr} {l : List α} (h : RwF n (P S w) S w x l) : RwF n (P T w) T w x l := (h.sub hST).imp fun e vs _ q => K.sub hST q
theorem ImQ.fr {S : Nat → Prop} {w w' : World} {m : ImR} {x1 x2 x3 : Option Addr} (h : ImQ S w m x1 x2 x3) (k : FrS S w w') : ImQ S w' m x1 x2 x3 := ⟨h.1.fr k, h.2.1.frK keptF k, h.2.2.frK keptJ k⟩
theorem ImQ.sub {S T : Nat → Prop} (hST : ∀ b, S b → T b) {w : World} {m : ImR} {x1 x2 x3 : Option Addr} (h : ImQ S w m x1 x2 x3) : ImQ T w m x1 x2 x3 := ⟨h.1.sub hST, h.2.1.subK keptF hST, h.2.2.subK keptJ hST⟩
theorem ImQ.old {w W : World} {m : ImR} {x1 x2 x3 : Option Addr} (h : ImQ (fun b => b < w.heap.size) w m x1 x2 x3) (hb : Below w.heap.size w W) : ImQ (fun b => b < W.heap.size) W m x1 x2 x3 := (h.fr (fun q hq => hb.cell hq)).sub fun b q => Nat.lt_of_lt_of_le q hb.size
theorem FlQ.old {w W : World} {m : FlR} {x1 x2 : Option Addr} (h : FlQ (fun b => b < w.heap.size) w m x1 x2) (hb : Below w.heap.size w W) : FlQ (fun b => b < W.heap.size) W m x1 x2 := (h.fr (fun q hq => hb.cell hq)).sub fun b q => Nat.lt_of_lt_of_le q hb.size
theorem JbQ.old {w W : World} {m : JbR} {x1 x2 : Option Addr} (h : JbQ (fun b => b < w.heap.size) w m x1 x2) (hb : Below w.heap.size w W) : JbQ (fun b => b < W.heap.size) W m x1 x2 := (h.fr (fun q hq => hb.cell hq)).sub fun b q => Nat.lt_of_lt_of_le q hb.size
end Go.Proofs.YtpcjnhffpkpchaaGreat
