/- A region whose order is open: a load may be taken first where only operations that wait for it write its cell; no statement of the seat is proved here. -/
import Derived.Test.YtkickdmomompjaaGreatRows
import Derived.WalkKit
import Derived.WalkSpells
import Derived.WalkLawsBesides
import Derived.BigQuiet
import Derived.Below
import Derived.Handy
import Derived.OwnWalk
import Derived.Laws.CopyOwn
import Derived.Deep.WholeRow
import Derived.ProofKit
import Derived.OpenShut
import Derived.Maps.AppendAt
import Derived.Deep.RegionHeld3
import Derived.Lib.Builder
import Derived.Deep.Cut
import Derived.Deep.Light
namespace Go.Proofs.YtkickdmomompjaaGreat
set_option linter.unusedVariables false
open Go.RowKit
/-- A world in which nothing old has turned. -/
structure Sub (W : World) where
  w : World
  h : Below W.heap.size W w
theorem Sub.cell {W : World} (x : Sub W) (b o : Nat) (h : b < W.heap.size) : x.w.cell? ⟨b, o, none⟩ = W.cell? ⟨b, o, none⟩ := x.h.cell (p := ⟨b, o, none⟩) h
/-- One walk, in the text's order, of a region whose order Go leaves open, where each operation yields one value in every such world and leaves such a world. -/
theorem wp_region_sub {P : Program} {id : Nat} {Q : Exit → Act → World → Prop} {a : Act} {w : World} {l : List Oper} (hm : P.follows .mixedOrders = true) (hB : Region.lexB .any l.toArray = true)
    (h : wpQuiet P l.toArray (fun w' => ∃ x : Sub w, w' = x.w) (fun a' => ∀ w', (∃ x : Sub w, w' = x.w) → Q .normal a' w') l a) : (Code.region id l.toArray true).wp P Q a w :=
  wp_region_quiet (C := fun w' => ∃ x : Sub w, w' = x.w) hm hB ⟨⟨w.drew, (Below.refl _ _).drew⟩, rfl⟩ (by simpa using h)
theorem wp_region_sub2 {P : Program} {id : Nat} {Q : Exit → Act → World → Prop} {a : Act} {w : World} {l : List Oper} (hm : P.follows .mixedOrders = true) (hB : Region.lexB .any l.toArray = true)
    (h : (∀ (x : Sub w) (b o : Nat), b < w.heap.size → x.w.cell? ⟨b, o, none⟩ = w.cell? ⟨b, o, none⟩) → wpQuiet P l.toArray (fun w' => ∃ x : Sub w, w' = x.w) (fun a' => ∀ w', (∃ x : Sub w, w' = x.w) → Q .normal a' w') l a) : (Code.region id l.toArray true).wp P Q a w :=
  wp_region_sub hm hB (h fun x b o hb => x.cell b o hb)
theorem calls_sub {P : Program} {f : FuncId} {args : Array Value} {W : World} {x : Sub W} {v : Value} (h : Calls P f args x.w fun e w' => e = .returned v ∧ Below x.w.heap.size x.w w') :
    Calls P f args x.w fun e w'' => e = .returned v ∧ ∃ y : Sub W, w'' = y.w :=
  h.mono fun _ w' ⟨he, hb⟩ => ⟨he, ⟨w', x.h.trans (hb.mono x.h.size)⟩, rfl⟩
theorem calls_sub_same {P : Program} {f : FuncId} {args : Array Value} {W : World} {x : Sub W} {v : Value} (h : Calls P f args x.w fun e w' => e = .returned v ∧ w' = x.w) :
    Calls P f args x.w fun e w'' => e = .returned v ∧ ∃ y : Sub W, w'' = y.w :=
  h.mono fun _ w' ⟨he, hb⟩ => ⟨he, x, hb⟩
end Go.Proofs.YtkickdmomompjaaGreat
namespace Go.Proofs.YtkickdmomompjaaGreat
set_option linter.unusedVariables false
open Go.RowKit
theorem ba_ext {a b : ByteArray} (h : a.toList = b.toList) : a = b := by
  cases a with
  | mk x =>
    cases b with
    | mk y =>
      rw [ByteArray.toList_eq, ByteArray.toList_eq] at h
      exact congrArg ByteArray.mk (Array.toList_inj.1 h)
theorem msr {k n : Nat} (h : k < n) : n - (intOf (.int .i64 ((k : Int) + 1))).toNat < n - (intOf (.int .i64 (k : Int))).toNat := by
  show n - ((k : Int) + 1).toNat < n - ((k : Int)).toNat
  omega
/-- Texts in a row. -/
def NmAt (w : World) (x : Option Addr) (l : List ByteArray) : Prop := (x = none → l = []) ∧ ∀ a, x = some a → ∀ i s, l[i]? = some s → w.cell? (a.add i) = some (.string s)
theorem NmAt.some {w : World} {x : Option Addr} {l : List ByteArray} (h : NmAt w x l) (hl : 0 < l.length) : ∃ a, x = .some a := by
  cases x with
  | none => rw [h.1 rfl] at hl; exact absurd hl (by decide)
  | some a => exact ⟨a, rfl⟩
theorem NmAt.cell {w : World} {a : Addr} {l : List ByteArray} (h : NmAt w (Option.some a) l) (k : Nat) (hk : k < l.length) : ∃ s, l[k]? = Option.some s ∧ w.cell? (a.add k) = Option.some (.string s) := ⟨l[k], List.getElem?_eq_getElem hk, h.2 a rfl k _ (List.getElem?_eq_getElem hk)⟩
theorem NmAt.below {w w' : World} {x : Option Addr} {l : List ByteArray} (h : NmAt w x l) (hb : Below w.heap.size w w') : NmAt w' x l := ⟨h.1, fun a e i s hs => by have c := h.2 a e i s hs; exact (hb.cell (block_lt_of_cell c)).trans c⟩
end Go.Proofs.YtkickdmomompjaaGreat
namespace Go.Proofs.YtkickdmomompjaaGreat
set_option linter.unusedVariables false
open Go.RowKit
/-- What an expression has besides its parts. -/
structure EH where
  op : Int
  pl : Int
  nm : ByteArray
  fd : ByteArray
  vk : Int
  vb : Int
  vs : ByteArray
  kd : Int
  ar : Int
  rf : Int
  fr : Int
  up : Int
/-- An expression: its head, the names of its parts, its parts. -/
inductive Ex where
  | mk (h : EH) (ns : List ByteArray) (l : List Ex)
/-- An expression as a value. -/
abbrev EV (h : EH) (k n : Value) : Value := .agg #[.int .i64 h.op, .int .i64 h.pl, .string h.nm, .string h.fd, .int .u8 h.vk, .int .u64 h.vb, .string h.vs, k, n, .int .u8 h.kd, .int .i64 h.ar, .int .i64 h.rf, .int .i64 h.fr, .int .i64 h.up]
/-- Its cells. -/
structure EcAt (w : World) (p : Addr) (h : EH) (k n : Value) : Prop where
  c0 : w.cell? p = some (.int .i64 h.op)
  c1 : w.cell? ⟨p.block, p.off + 1, none⟩ = some (.int .i64 h.pl)
  c2 : w.cell? ⟨p.block, p.off + 2, none⟩ = some (.string h.nm)
  c3 : w.cell? ⟨p.block, p.off + 3, none⟩ = some (.string h.fd)
  c4 : w.cell? ⟨p.block, p.off + 4, none⟩ = some (.int .u8 h.vk)
  c5 : w.cell? ⟨p.block, p.off + 5, none⟩ = some (.int .u64 h.vb)
  c6 : w.cell? ⟨p.block, p.off + 6, none⟩ = some (.string h.vs)
  c7 : w.cell? ⟨p.block, p.off + 7, none⟩ = some (k)
  c8 : w.cell? ⟨p.block, p.off + 8, none⟩ = some (n)
  c9 : w.cell? ⟨p.block, p.off + 9, none⟩ = some (.int .u8 h.kd)
  c10 : w.cell? ⟨p.block, p.off + 10, none⟩ = some (.int .i64 h.ar)
  c11 : w.cell? ⟨p.block, p.off + 11, none⟩ = some (.int .i64 h.rf)
  c12 : w.cell? ⟨p.block, p.off + 12, none⟩ = some (.int .i64 h.fr)
  c13 : w.cell? ⟨p.block, p.off + 13, none⟩ = some (.int .i64 h.up)
theorem EcAt.below {w w' : World} {p : Addr} {h : EH} {k n : Value} (a : EcAt w p h k n) (hb : Below w.heap.size w w') : EcAt w' p h k n := by
  have z := block_lt_of_cell a.c0
  exact ⟨(hb.cell (p := p) z).trans a.c0, (hb.cell (p := ⟨p.block, p.off + 1, none⟩) z).trans a.c1, (hb.cell (p := ⟨p.block, p.off + 2, none⟩) z).trans a.c2, (hb.cell (p := ⟨p.block, p.off + 3, none⟩) z).trans a.c3, (hb.cell (p := ⟨p.block, p.off + 4, none⟩) z).trans a.c4, (hb.cell (p := ⟨p.block, p.off + 5, none⟩) z).trans a.c5, (hb.cell (p := ⟨p.block, p.off + 6, none⟩) z).trans a.c6, (hb.cell (p := ⟨p.block, p.off + 7, none⟩) z).trans a.c7, (hb.cell (p := ⟨p.block, p.off + 8, none⟩) z).trans a.c8, (hb.cell (p := ⟨p.block, p.off + 9, none⟩) z).trans a.c9, (hb.cell (p := ⟨p.block, p.off + 10, none⟩) z).trans a.c10, (hb.cell (p := ⟨p.block, p.off + 11, none⟩) z).trans a.c11, (hb.cell (p := ⟨p.block, p.off + 12, none⟩) z).trans a.c12, (hb.cell (p := ⟨p.block, p.off + 13, none⟩) z).trans a.c13⟩
/-- Few enough for an int. -/
abbrev few (n : Nat) : Prop := n < 549755813888
/-- An expression at an address; so deep at most. -/
def ExAt : Nat → World → Addr → Ex → Prop
  | 0, _, _, _ => False
  | d + 1, w, p, .mk h ns l => ∃ x c y c', EcAt w p h (.slice x l.length c) (.slice y ns.length c') ∧ NmAt w y ns ∧ few ns.length ∧ few l.length ∧ (x = none → l = []) ∧ ∀ b, x = some b → ∀ i e, l[i]? = some e → ExAt d w (b.add (i * 14)) e
/-- Expressions in a row. -/
def KdAt (d : Nat) (w : World) (x : Option Addr) (l : List Ex) : Prop := few l.length ∧ (x = none → l = []) ∧ ∀ b, x = some b → ∀ i e, l[i]? = some e → ExAt d w (b.add (i * 14)) e
/-- An expression's value, as it is handed on. -/
def EvOk (d : Nat) (w : World) (v : Value) : Ex → Prop
  | .mk h ns l => ∃ x c y c', v = EV h (.slice x l.length c) (.slice y ns.length c') ∧ NmAt w y ns ∧ few ns.length ∧ KdAt d w x l
theorem ExAt.below : ∀ (d : Nat) {w w' : World} {p : Addr} {e : Ex}, ExAt d w p e → Below w.heap.size w w' → ExAt d w' p e
  | 0, _, _, _, _, h, _ => h.elim
  | d + 1, w, w', p, .mk h ns l, ⟨x, c, y, c', hc, hn, f1, f2, h0, hk⟩, hb => ⟨x, c, y, c', hc.below hb, hn.below hb, f1, f2, h0, fun b e i q hq => ExAt.below d (hk b e i q hq) hb⟩
theorem KdAt.below {d : Nat} {w w' : World} {x : Option Addr} {l : List Ex} (h : KdAt d w x l) (hb : Below w.heap.size w w') : KdAt d w' x l := ⟨h.1, h.2.1, fun b e i q hq => ExAt.below d (h.2.2 b e i q hq) hb⟩
theorem EvOk.below {d : Nat} {w w' : World} {v : Value} {e : Ex} (h : EvOk d w v e) (hb : Below w.heap.size w w') : EvOk d w' v e := by
  cases e with
  | mk hd ns l =>
    obtain ⟨x, c, y, c', e, hn, f, hk⟩ := h
    exact ⟨x, c, y, c', e, hn.below hb, f, hk.below hb⟩
/-- What an element of a row reads as. -/
theorem KdAt.el {d : Nat} {w : World} {b : Addr} {l : List Ex} (h : KdAt (d + 1) w (some b) l) (i : Nat) (hi : i < l.length) : ∃ hd ns l' x c y c', l[i]? = some (.mk hd ns l') ∧ EcAt w (b.add (i * 14)) hd (.slice x l'.length c) (.slice y ns.length c') ∧ EvOk d w (EV hd (.slice x l'.length c) (.slice y ns.length c')) (.mk hd ns l') := by
  have a := h.2.2 b rfl i l[i] (List.getElem?_eq_getElem hi)
  cases e : l[i] with
  | mk hd ns l' =>
    rw [e] at a
    obtain ⟨x, c, y, c', hc, hn, f1, f2, h0, hk⟩ := a
    exact ⟨hd, ns, l', x, c, y, c', by rw [List.getElem?_eq_getElem hi, e], hc, x, c, y, c', rfl, hn, f1, f2, h0, hk⟩
theorem KdAt.none0 {w : World} {x : Option Addr} {l : List Ex} (h : KdAt 0 w x l) : l = [] := by
  cases x with
  | none => exact h.2.1 rfl
  | some b =>
    cases l with
    | nil => rfl
    | cons e l => exact (h.2.2 b rfl 0 e rfl).elim
/-- Are two rows the same, by what tells it of two? -/
def smL {α : Type} (f : α → α → Bool) : List α → List α → Bool
  | [], [] => true
  | a :: l, b :: l' => f a b && smL f l l'
  | [], _ :: _ => false
  | _ :: _, [] => false
theorem smL_len {α : Type} (f : α → α → Bool) : ∀ l l' : List α, ¬ l.length = l'.length → smL f l l' = false
  | [], [], h => absurd rfl h
  | a :: l, b :: l', h => by simp [smL, smL_len f l l' (fun e => h (by simp [e]))]
  | [], _ :: _, _ => rfl
  | _ :: _, [], _ => rfl
theorem smL_all {α : Type} (f : α → α → Bool) : ∀ l l' : List α, l.length = l'.length → (∀ (i : Nat) e e', l[i]? = some e → l'[i]? = some e' → f e e' = true) → smL f l l' = true
  | [], [], _, _ => rfl
  | a :: l, b :: l', h, k => by
    have h0 := k 0 a b rfl rfl
    have ih := smL_all f l l' (by simpa using h) (fun i e e' x y => k (i + 1) e e' (by simpa using x) (by simpa using y))
    simp [smL, h0, ih]
  | [], _ :: _, h, _ => absurd h (by simp)
  | _ :: _, [], h, _ => absurd h (by simp)
theorem smL_bad {α : Type} (f : α → α → Bool) : ∀ (l l' : List α) (i : Nat) (e e' : α), l[i]? = some e → l'[i]? = some e' → f e e' = false → smL f l l' = false
  | [], _, i, _, _, h, _, _ => by simp at h
  | _ :: _, [], i, _, _, _, h, _ => by simp at h
  | a :: l, b :: l', 0, e, e', h, k, q => by
    simp at h k
    subst h k
    simp [smL, q]
  | a :: l, b :: l', i + 1, e, e', h, k, q => by
    have := smL_bad f l l' i e e' (by simpa using h) (by simpa using k) q
    simp [smL, this]
def hdS (h h' : EH) : Bool := decide (h.op = h'.op ∧ h.nm = h'.nm ∧ h.fd = h'.fd ∧ h.vk = h'.vk ∧ h.vb = h'.vb ∧ h.vs = h'.vs)
def smE : Nat → Ex → Ex → Bool
  | 0, _, _ => false
  | d + 1, .mk h ns l, .mk h' ns' l' => hdS h h' && decide (ns = ns') && smL (smE d) l l'
end Go.Proofs.YtkickdmomompjaaGreat
namespace Go.Proofs.YtkickdmomompjaaGreat
set_option linter.unusedVariables false
open Go.RowKit
def tcL (l : List ByteArray) : List Value := l.map Value.string
theorem infoT : ∃ i, Tryz.prog.info? 9 = some i ∧ i.zero = some (.string ⟨#[]⟩) ∧ i.size = 1 ∧ i.bytes = 16 := by
  obtain ⟨i, hi, hz⟩ := Option.map_eq_some_iff.1 (show (Tryz.prog.info? 9).map (fun i => (i.zero, i.size, i.bytes)) = some (some (.string ⟨#[]⟩), 1, 16) by kernel_rfl)
  simp only [Prod.mk.injEq] at hz
  exact ⟨i, hi, hz.1, hz.2.1, hz.2.2⟩
theorem ownt_none (w : World) : (w.alloc (.cells #[] 9)).ownsRow w.heap.size 9 1 (.slice (some ⟨w.heap.size, 0, none⟩) 0 0) 0 [] :=
  ⟨rfl, .inr ⟨w.heap.size, 0, #[], rfl, Nat.le_refl _, heap_alloc_last w _, Nat.le_refl _, Nat.zero_le _, rfl, rfl⟩⟩
theorem ownB' {w : World} {base : Nat} {e : TypeId} {size : Nat} {x : Value} {n : Nat} {xs : List Value} (h : w.ownsRow base e size x n xs) {g : Nat} (hg : x.ownBlock = some g) : base ≤ g := by
  obtain ⟨_, h2⟩ := h
  rcases h2 with ⟨rfl, _⟩ | ⟨g2, cap, cur, rfl, hb, _⟩
  · simp [Value.ownBlock] at hg
  · simp [Value.ownBlock] at hg; omega
theorem own_nm {w : World} {base : Nat} {x : Value} {l : List ByteArray} (h : w.ownsRow base 9 1 x l.length (tcL l)) : ∃ y c, x = .slice y l.length c ∧ NmAt w y l := by
  obtain ⟨h1, h2⟩ := h
  rcases h2 with ⟨e, e'⟩ | ⟨g, cap, cur, e, hb, hg, hc, hm, hs, ht⟩
  · have : l = [] := List.length_eq_zero_iff.1 e'
    subst this
    exact ⟨none, 0, e, fun _ => rfl, fun a q => by cases q⟩
  · refine ⟨_, _, e, fun q => (by cases q), fun a q i s hs' => ?_⟩
    cases q
    have il : i < l.length := (List.getElem?_eq_some_iff.1 hs').1
    have a : (tcL l)[i]? = some (.string s) := by unfold tcL; rw [List.getElem?_map, hs']; rfl
    rw [← ht, List.getElem?_take_of_lt (by omega)] at a
    have e : (⟨g, 0, none⟩ : Addr).add i = ⟨g, i, none⟩ := by unfold Addr.add; split <;> simp_all
    rw [e]
    simp only [World.cell?, hg]
    simpa using a
end Go.Proofs.YtkickdmomompjaaGreat
namespace Go.Proofs.YtkickdmomompjaaGreat
set_option linter.unusedVariables false
open Go.RowKit
/-- The blocks that S names hold what they held. -/
def FrS (S : Nat → Prop) (w w' : World) : Prop := ∀ q : Addr, S q.block → w'.cell? q = w.cell? q
/-- Texts in a row whose cells lie in S. -/
def NmF (S : Nat → Prop) (w : World) (y : Option Addr) (ns : List ByteArray) : Prop := NmAt w y ns ∧ ∀ a, y = some a → ∀ (i : Nat) s, ns[i]? = some s → S a.block
/-- An expression at an address, all its cells in S. -/
def ExF (S : Nat → Prop) : Nat → World → Addr → Ex → Prop
  | 0, _, _, _ => False
  | d + 1, w, p, .mk h ns l => S p.block ∧ ∃ x c y c', EcAt w p h (.slice x l.length c) (.slice y ns.length c') ∧ NmF S w y ns ∧ few ns.length ∧ few l.length ∧ (x = none → l = []) ∧ ∀ b, x = some b → ∀ i e, l[i]? = some e → ExF S d w (b.add (i * 14)) e
def KdF (S : Nat → Prop) (d : Nat) (w : World) (x : Option Addr) (l : List Ex) : Prop := few l.length ∧ (x = none → l = []) ∧ ∀ b, x = some b → ∀ i e, l[i]? = some e → ExF S d w (b.add (i * 14)) e
def EvF (S : Nat → Prop) (d : Nat) (w : World) (v : Value) : Ex → Prop
  | .mk h ns l => ∃ x c y c', v = EV h (.slice x l.length c) (.slice y ns.length c') ∧ NmF S w y ns ∧ few ns.length ∧ KdF S d w x l
theorem add_block (a : Addr) (i : Nat) : (a.add i).block = a.block := by unfold Addr.add; split <;> rfl
theorem NmF.fr {S : Nat → Prop} {w w' : World} {y : Option Addr} {ns : List ByteArray} (h : NmF S w y ns) (f : FrS S w w') : NmF S w' y ns :=
  ⟨⟨h.1.1, fun a e i s hs => (f _ (by rw [add_block]; exact h.2 a e i s hs)).trans (h.1.2 a e i s hs)⟩, h.2⟩
theorem EcAt.fr {S : Nat → Prop} {w w' : World} {p : Addr} {h : EH} {k n : Value} (a : EcAt w p h k n) (f : FrS S w w') (hp : S p.block) : EcAt w' p h k n :=
  ⟨(f _ hp).trans a.c0, (f ⟨p.block, p.off + 1, none⟩ hp).trans a.c1, (f ⟨p.block, p.off + 2, none⟩ hp).trans a.c2, (f ⟨p.block, p.off + 3, none⟩ hp).trans a.c3, (f ⟨p.block, p.off + 4, none⟩ hp).trans a.c4, (f ⟨p.block, p.off + 5, none⟩ hp).trans a.c5, (f ⟨p.block, p.off + 6, none⟩ hp).trans a.c6, (f ⟨p.block, p.off + 7, none⟩ hp).trans a.c7, (f ⟨p.block, p.off + 8, none⟩ hp).trans a.c8, (f ⟨p.block, p.off + 9, none⟩ hp).trans a.c9, (f ⟨p.block, p.off + 10, none⟩ hp).trans a.c10, (f ⟨p.block, p.off + 11, none⟩ hp).trans a.c11, (f ⟨p.block, p.off + 12, none⟩ hp).trans a.c12, (f ⟨p.block, p.off + 13, none⟩ hp).trans a.c13⟩
theorem ExF.fr {S : Nat → Prop} : ∀ (d : Nat) {w w' : World} {p : Addr} {e : Ex}, ExF S d w p e → FrS S w w' → ExF S d w' p e
  | 0, _, _, _, _, h, _ => h.elim
  | d + 1, w, w', p, .mk h ns l, ⟨hp, x, c, y, c', hc, hn, f1, f2, h0, hk⟩, f => ⟨hp, x, c, y, c', hc.fr f hp, hn.fr f, f1, f2, h0, fun b e i q hq => ExF.fr d (hk b e i q hq) f⟩
theorem ExF.sub {S T : Nat → Prop} (hST : ∀ b, S b → T b) : ∀ (d : Nat) {w : World} {p : Addr} {e : Ex}, ExF S d w p e → ExF T d w p e
  | 0, _, _, _, h => h.elim
  | d + 1, w, p, .mk h ns l, ⟨hp, x, c, y, c', hc, hn, f1, f2, h0, hk⟩ => ⟨hST _ hp, x, c, y, c', hc, ⟨hn.1, fun a e i s q => hST _ (hn.2 a e i s q)⟩, f1, f2, h0, fun b e i q hq => ExF.sub hST d (hk b e i q hq)⟩
theorem ExF.at {S : Nat → Prop} : ∀ (d : Nat) {w : World} {p : Addr} {e : Ex}, ExF S d w p e → ExAt d w p e
  | 0, _, _, _, h => h.elim
  | d + 1, w, p, .mk h ns l, ⟨hp, x, c, y, c', hc, hn, f1, f2, h0, hk⟩ => ⟨x, c, y, c', hc, hn.1, f1, f2, h0, fun b e i q hq => ExF.at d (hk b e i q hq)⟩
theorem KdF.fr {S : Nat → Prop} {d : Nat} {w w' : World} {x : Option Addr} {l : List Ex} (h : KdF S d w x l) (f : FrS S w w') : KdF S d w' x l := ⟨h.1, h.2.1, fun b e i q hq => ExF.fr d (h.2.2 b e i q hq) f⟩
theorem KdF.sub {S T : Nat → Prop} (hST : ∀ b, S b → T b) {d : Nat} {w : World} {x : Option Addr} {l : List Ex} (h : KdF S d w x l) : KdF T d w x l := ⟨h.1, h.2.1, fun b e i q hq => ExF.sub hST d (h.2.2 b e i q hq)⟩
theorem KdF.at {S : Nat → Prop} {d : Nat} {w : World} {x : Option Addr} {l : List Ex} (h : KdF S d w x l) : KdAt d w x l := ⟨h.1, h.2.1, fun b e i q hq => ExF.at d (h.2.2 b e i q hq)⟩
theorem EvF.fr {S : Nat → Prop} {d : Nat} {w w' : World} {v : Value} {e : Ex} (h : EvF S d w v e) (f : FrS S w w') : EvF S d w' v e := by
  cases e with
  | mk hd ns l =>
    obtain ⟨x, c, y, c', e, hn, q, hk⟩ := h
    exact ⟨x, c, y, c', e, hn.fr f, q, hk.fr f⟩
theorem EvF.sub {S T : Nat → Prop} (hST : ∀ b, S b → T b) {d : Nat} {w : World} {v : Value} {e : Ex} (h : EvF S d w v e) : EvF T d w v e := by
  cases e with
  | mk hd ns l =>
    obtain ⟨x, c, y, c', e, hn, q, hk⟩ := h
    exact ⟨x, c, y, c', e, ⟨hn.1, fun a e i s q => hST _ (hn.2 a e i s q)⟩, q, hk.sub hST⟩
theorem EvF.at {S : Nat → Prop} {d : Nat} {w : World} {v : Value} {e : Ex} (h : EvF S d w v e) : EvOk d w v e := by
  cases e with
  | mk hd ns l =>
    obtain ⟨x, c, y, c', e, hn, q, hk⟩ := h
    exact ⟨x, c, y, c', e, hn.1, q, hk.at⟩
/-- The blocks made between two worlds. -/
def Fresh (a b : Nat) : Nat → Prop := fun g => a ≤ g ∧ g < b
theorem fresh_fr {a b : Nat} {w w' : World} (hb : Below w.heap.size w w') (h : b ≤ w.heap.size) : FrS (Fresh a b) w w' := fun q hq => hb.cell (Nat.lt_of_lt_of_le hq.2 h)
theorem own_nmF {w : World} {base : Nat} {x : Value} {l : List ByteArray} (h : w.ownsRow base 9 1 x l.length (tcL l)) : ∃ y c, x = .slice y l.length c ∧ NmF (Fresh base w.heap.size) w y l := by
  obtain ⟨y, c, hx, hn⟩ := own_nm h
  refine ⟨y, c, hx, hn, fun a e i s hs => ⟨?_, ?_⟩⟩
  · subst e hx
    obtain ⟨_, h2⟩ := h
    rcases h2 with ⟨h3, _⟩ | ⟨g, cap, cur, h3, hb, _⟩
    · cases h3
    · cases h3; exact hb
  · have z := block_lt_of_cell (hn.2 a e i s hs)
    rwa [add_block] at z
end Go.Proofs.YtkickdmomompjaaGreat
namespace Go.Proofs.YtkickdmomompjaaGreat
set_option linter.unusedVariables false
open Go.RowKit Go.ChangeShapes Go.WideShapes Go.ChangeAt
theorem add_off (a : Addr) (i j : Nat) : (a.add i).add j = a.add (i + j) := by
  unfold Addr.add
  by_cases hi : i = 0 <;> by_cases hj : j = 0 <;> simp [hi, hj, Nat.add_assoc]
theorem add_pos (a : Addr) (j : Nat) (h : 0 < j) : a.add j = ⟨a.block, a.off + j, none⟩ := by
  unfold Addr.add; rw [if_neg (by omega)]
theorem pick_lt {α : Type} (p : Nat → α → Prop) : ∀ n, (∀ i, i < n → ∃ t, p i t) → ∃ l : List α, l.length = n ∧ ∀ i t, l[i]? = some t → p i t
  | 0, _ => ⟨[], rfl, fun i t h => by simp at h⟩
  | n + 1, h => by
    obtain ⟨l, hl, hp⟩ := pick_lt p n fun i hi => h i (by omega)
    obtain ⟨t, ht⟩ := h n (by omega)
    refine ⟨l ++ [t], by simp [hl], fun i u hu => ?_⟩
    by_cases hi : i < n
    · rw [List.getElem?_append_left (by omega)] at hu; exact hp i u hu
    · have e : i = n := by
        have := (List.getElem?_eq_some_iff.1 hu).1
        simp at this
        omega
      subst e
      rw [List.getElem?_append_right (by omega), hl] at hu
      simp at hu
      subst hu
      exact ht
theorem one_le {H : Type} (d : DataW H) : 1 ≤ Rows.uptoBulk d := by
  cases d with
  | lit l => cases l <;> simp [Rows.uptoBulk]
  | nil => simp [Rows.uptoBulk]
  | ptr d => simp [Rows.uptoBulk]
  | slice elems spare => simp [Rows.uptoBulk]
  | agg parts => simp [Rows.uptoBulk]
  | iface t d => simp [Rows.uptoBulk]
  | map entries => simp [Rows.uptoBulk]
  | held h => simp [Rows.uptoBulk]
theorem elem_le {H : Type} : ∀ {l : List (DataW H × List MemPlace)} {i : Nat} {y : DataW H × List MemPlace}, l[i]? = some y → Rows.uptoBulk y.1 ≤ Rows.uptoBulkAll (l.map (·.1))
  | [], i, y, h => by simp at h
  | a :: l, 0, y, h => by
    simp at h
    subst h
    simp only [List.map_cons, Rows.uptoBulkAll]
    omega
  | a :: l, i + 1, y, h => by
    have := elem_le (l := l) (i := i) (y := y) (by simpa using h)
    simp only [List.map_cons, Rows.uptoBulkAll]
    omega
theorem len_le {H : Type} : ∀ l : List (DataW H × List MemPlace), l.length ≤ Rows.uptoBulkAll (l.map (·.1))
  | [] => by simp [Rows.uptoBulkAll]
  | a :: l => by
    have := len_le l
    have := one_le a.1
    simp only [List.map_cons, Rows.uptoBulkAll, List.length_cons]
    omega
section
variable {H : Type} {enc : TypeId × Value → H} {w : World} {base : Nat} {spare : Nat → Bool} {held : Bool}
/-- A slice, as it is read. -/
theorem rd_slice {fuel : Nat} {t e : TypeId} {v : Value} {x : DataW H × List MemPlace} (ht : Tryz.prog.underlying t = some (.slice e)) (k : Nat) (hk : Tryz.prog.cellsOf e = k) (h : DataW.trod enc Tryz.prog w base spare held fuel t [v] = some x) :
    v = .slice none 0 0 ∨ ∃ a len cap m, fuel = m + 1 ∧ v = .slice (some a) len cap ∧ len + 1 ≤ Rows.uptoBulk x.1 ∧ ∀ i, i < len → ∃ cs y, (∀ j, j < k → w.cell? (a.add (i * k + j)) = cs[j]?) ∧ cs.length = k ∧ DataW.trod enc Tryz.prog w base spare held m e cs = some y ∧ Rows.uptoBulk y.1 + 1 ≤ Rows.uptoBulk x.1 := by
  rcases DataW.trod_slice ht h with ⟨e1, _⟩ | ⟨a, len, cap, elems, rest, n, rfl, hc, hx, hb, hl, hm, hel, he, _⟩
  · simp at e1
    exact .inl e1
  · simp at hc
    refine .inr ⟨a, len, cap, n, rfl, hc, ?_, fun i hi => ?_⟩
    · have := len_le elems
      rw [hx]
      simp only [Rows.uptoBulk]
      omega
    · have q := he i hi
      have e2 : elems[i]? = some (elems[i]'(by omega)) := List.getElem?_eq_getElem _
      rw [e2, hk] at q
      obtain ⟨cs, h1, h2⟩ := Option.bind_eq_some_iff.1 q
      obtain ⟨_, hlen, g⟩ := World.cells?_some h1
      refine ⟨cs, _, fun j hj => by have := g j hj; rwa [add_off] at this, hlen, h2, ?_⟩
      have := elem_le e2
      rw [hx]
      simp only [Rows.uptoBulk]
      omega
theorem blk {a : Addr} {i : Nat} {u : Value} (h : w.cell? (a.add i) = some u) : a.block < w.heap.size := by have := block_lt_of_cell h; rwa [add_block] at this
/-- A struct, as it is read, field by field. -/
theorem rd_struct {fuel : Nat} {t : TypeId} {cs : List Value} {x : DataW H × List MemPlace} {L : List (TypeId × Nat)} (ht : Tryz.prog.underlying t = some (.struct (Tryz.prog.fieldsOf t))) (hL : ((Tryz.prog.fieldsOf t).map (fun f => (f.type, f.offset))).toList = L)
    (h : DataW.trod enc Tryz.prog w base spare held fuel t cs = some x) : ∃ (xs : List (DataW H × List MemPlace)) (m : Nat), fuel = m + 1 ∧ x.1 = .agg (xs.map (·.1)) ∧ cs.length = Tryz.prog.cellsOf t ∧ xs.length = L.length ∧ ∀ (i : Nat) (u : TypeId) (o : Nat), L[i]? = some (u, o) → DataW.trod enc Tryz.prog w base spare held m u ((cs.drop o).take (Tryz.prog.cellsOf u)) = xs[i]? := by
  obtain ⟨xs, n, e, hx, hl, hlen, hf⟩ := DataW.trod_struct ht h
  refine ⟨xs, n, e, by rw [hx], hl, by rw [hlen, ← hL]; simp, fun i u o hi => ?_⟩
  rw [← hL] at hi
  simp only [Array.toList_map, List.getElem?_map, Option.map_eq_some_iff, Array.getElem?_toList, Prod.mk.injEq] at hi
  obtain ⟨f, h1, rfl, rfl⟩ := hi
  exact hf i f h1
theorem fieldsV : ((Tryz.prog.fieldsOf 54).map (fun f => (f.type, f.offset))).toList = [(51, 0), (52, 1), (9, 2)] := by kernel_rfl
end
end Go.Proofs.YtkickdmomompjaaGreat
namespace Go.Proofs.YtkickdmomompjaaGreat
set_option linter.unusedVariables false
open Go.RowKit
theorem ad_off (a : Addr) (i j : Nat) : (a.add i).add j = a.add (i + j) := by
  unfold Addr.add
  by_cases hi : i = 0 <;> by_cases hj : j = 0 <;> simp [hi, hj, Nat.add_assoc]
theorem ad_pos (a : Addr) (j : Nat) : a.add (j + 1) = ⟨a.block, a.off + (j + 1), none⟩ := by
  unfold Addr.add; rw [if_neg (by omega)]
theorem ad_zero (a : Addr) : a.add 0 = a := by simp [Addr.add]
/-- Cells one behind another from an address on. -/
def CsAt (w : World) (p : Addr) (vs : List Value) : Prop := ∀ (j : Nat) v, vs[j]? = some v → w.cell? (p.add j) = some v
theorem CsAt.fr {S : Nat → Prop} {w w' : World} {p : Addr} {vs : List Value} (h : CsAt w p vs) (f : FrS S w w') (hp : S p.block) : CsAt w' p vs :=
  fun j v hv => (f _ (by rw [add_block]; exact hp)).trans (h j v hv)
theorem CsAt.c0 {w : World} {p : Addr} {v : Value} {vs : List Value} (h : CsAt w p (v :: vs)) : w.cell? p = some v := by have := h 0 v rfl; rwa [ad_zero] at this
theorem CsAt.cp {w : World} {p : Addr} {vs : List Value} (h : CsAt w p vs) (j : Nat) (v : Value) (hv : vs[j + 1]? = some v) : w.cell? ⟨p.block, p.off + (j + 1), none⟩ = some v := by have := h (j + 1) v hv; rwa [ad_pos] at this
/-- Records in a row, each of n cells; P tells the cells. -/
def RwF {α : Type} (n : Nat) (P : α → List Value → Prop) (S : Nat → Prop) (w : World) (x : Option Addr) (l : List α) : Prop :=
  few l.length ∧ (x = none → l = []) ∧ ∀ a, x = some a → ∀ (i : Nat) e, l[i]? = some e → S a.block ∧ ∃ vs, P e vs ∧ CsAt w (a.add (i * n)) vs
section
variable {α : Type} {n : Nat} {P : α → List Value → Prop} {S : Nat → Prop} {w w' : World} {x : Option Addr} {l : List α}
theorem RwF.fr (h : RwF n P S w x l) (f : FrS S w w') : RwF n P S w' x l :=
  ⟨h.1, h.2.1, fun a e i t ht => by obtain ⟨h1, vs, h2, h3⟩ := h.2.2 a e i t ht; exact ⟨h1, vs, h2, h3.fr f (by rw [add_block]; exact h1)⟩⟩
theorem RwF.sub {T : Nat → Prop} (hST : ∀ b, S b → T b) (h : RwF n P S w x l) : RwF n P T w x l :=
  ⟨h.1, h.2.1, fun a e i t ht => by obtain ⟨h1, q⟩ := h.2.2 a e i t ht; exact ⟨hST _ h1, q⟩⟩
theorem RwF.imp {P' : α → List Value → Prop} (hP : ∀ e vs, e ∈ l → P e vs → P' e vs) (h : RwF n P S w x l) : RwF n P' S w x l :=
  ⟨h.1, h.2.1, fun a e i t ht => by obtain ⟨h1, vs, h2, h3⟩ := h.2.2 a e i t ht; exact ⟨h1, vs, hP t vs (List.mem_of_getElem? ht) h2, h3⟩⟩
theorem RwF.some (h : RwF n P S w x l) (hl : 0 < l.length) : ∃ a, x = .some a := by
  cases x with
  | none => rw [h.2.1 rfl] at hl; simp at hl
  | some a => exact ⟨a, rfl⟩
theorem RwF.el {a : Addr} (h : RwF n P S w (.some a) l) (i : Nat) (hi : i < l.length) : ∃ e vs, l[i]? = .some e ∧ S a.block ∧ P e vs ∧ CsAt w (a.add (i * n)) vs := by
  obtain ⟨h1, vs, h2, h3⟩ := h.2.2 a rfl i l[i] (List.getElem?_eq_getElem hi)
  exact ⟨l[i], vs, List.getElem?_eq_getElem hi, h1, h2, h3⟩
theorem RwF.nil (n : Nat) (P : α → List Value → Prop) (S : Nat → Prop) (w : World) : RwF n P S w none [] := ⟨by simp, fun _ => rfl, fun a e => by cases e⟩
end
theorem flat_at {n : Nat} : ∀ (vss : List (List Value)) (i j : Nat) (vs : List Value), (∀ v ∈ vss, v.length = n) → vss[i]? = some vs → j < n → vss.flatten[i * n + j]? = vs[j]?
  | [], i, j, vs, _, h, _ => by simp at h
  | a :: vss, 0, j, vs, hn, h, hj => by
    simp at h
    subst h
    rw [List.flatten_cons, List.getElem?_append_left (by rw [hn a (by simp)]; omega)]
    simp
  | a :: vss, i + 1, j, vs, hn, h, hj => by
    have := flat_at vss i j vs (fun v hv => hn v (by simp [hv])) (by simpa using h) hj
    have ha : a.length = n := hn a (by simp)
    rw [List.flatten_cons, List.getElem?_append_right (by rw [ha, Nat.add_mul]; omega)]
    rw [show (i + 1) * n + j - a.length = i * n + j by rw [ha, Nat.add_mul]; omega]
    exact this
theorem flat_len {n : Nat} : ∀ (vss : List (List Value)), (∀ v ∈ vss, v.length = n) → vss.flatten.length = vss.length * n
  | [], _ => by simp
  | a :: vss, hn => by
    have := flat_len vss (fun v hv => hn v (by simp [hv]))
    have ha : a.length = n := hn a (by simp)
    rw [List.flatten_cons, List.length_append, this, ha, List.length_cons, Nat.add_mul]
    omega
theorem flat_ex {n : Nat} (vss : List (List Value)) (hn : ∀ v ∈ vss, v.length = n) (j : Nat) (u : Value) (h : vss.flatten[j]? = some u) : ∃ i r vs, vss[i]? = some vs ∧ j = i * n + r ∧ vs[r]? = some u := by
  have hj := (List.getElem?_eq_some_iff.1 h).1
  rw [flat_len vss hn] at hj
  have n0 : 0 < n := by
    rcases Nat.eq_zero_or_pos n with q | q
    · subst q; simp at hj
    · exact q
  have hi : j / n < vss.length := by rw [Nat.div_lt_iff_lt_mul n0]; exact hj
  have ej : j = j / n * n + j % n := by rw [Nat.mul_comm]; exact (Nat.div_add_mod j n).symm
  refine ⟨j / n, j % n, vss[j / n], List.getElem?_eq_getElem hi, ej, ?_⟩
  rw [← flat_at vss (j / n) (j % n) _ hn (List.getElem?_eq_getElem hi) (Nat.mod_lt _ n0), ← ej]
  exact h
/-- A row of one's own, read row by row. -/
theorem own_rows {w : World} {base : Nat} {T : TypeId} {n k : Nat} {x : Value} {vss : List (List Value)} (h : w.ownsRow base T n x k vss.flatten) (hn : ∀ v ∈ vss, v.length = n) (hk : vss.length = k) :
    ∃ y c, x = .slice y k c ∧ (y = none → k = 0) ∧ ∀ a, y = some a → Fresh base w.heap.size a.block ∧ x.ownBlock = some a.block ∧ ∀ (i : Nat) vs, vss[i]? = some vs → CsAt w (a.add (i * n)) vs := by
  have hc := fun g (hg : x.ownBlock = some g) => h.cells hg
  have hl := h.lt
  obtain ⟨_, h2⟩ := h
  rcases h2 with ⟨e, e'⟩ | ⟨g, cap, cur, e, _⟩
  · subst e'
    exact ⟨none, 0, e, fun _ => rfl, fun a q => by cases q⟩
  · subst e
    refine ⟨_, _, rfl, fun q => (by cases q), fun a q => ?_⟩
    cases q
    refine ⟨hl g rfl, rfl, fun i vs hvs j u hu => ?_⟩
    have lj : j < n := by have := (List.getElem?_eq_some_iff.1 hu).1; rw [hn vs (List.mem_of_getElem? hvs)] at this; exact this
    have := hc g rfl (i * n + j) u (by rw [flat_at vss i j vs hn hvs lj]; exact hu)
    rwa [ad_off]
/-- What tells a record's cells is kept where the blocks of S are. -/
structure Kept {α : Type} (P : (Nat → Prop) → World → α → List Value → Prop) : Prop where
  fr : ∀ {S : Nat → Prop} {w w' : World} {e : α} {vs : List Value}, P S w e vs → FrS S w w' → P S w' e vs
  sub : ∀ {S T : Nat → Prop} {w : World} {e : α} {vs : List Value}, (∀ b, S b → T b) → P S w e vs → P T w e vs
/-- So many are made. -/
def MkI {α : Type} (T : TypeId) (n : Nat) (P : (Nat → Prop) → World → α → List Value → Prop) (base : Nat) (l : List α) (k : Nat) (out : Value) (wr : World) : Prop :=
  ∃ vss : List (List Value), vss.length = k ∧ (∀ v ∈ vss, v.length = n) ∧ wr.ownsRow base T n out k vss.flatten ∧
    ∀ (i : Nat) vs e, vss[i]? = some vs → l[i]? = some e → P (fun b => Fresh base wr.heap.size b ∧ out.ownBlock ≠ some b) wr e vs
section
variable {α : Type} {T : TypeId} {n base k : Nat} {P : (Nat → Prop) → World → α → List Value → Prop} {l : List α} {out out' : Value} {wr W w7 : World}
theorem MkI.zero (T : TypeId) (n base : Nat) (P : (Nat → Prop) → World → α → List Value → Prop) (l : List α) (w : World) : MkI T n P base l 0 (.slice none 0 0) w := ⟨[], rfl, fun v hv => (by cases hv), World.ownsRow_nil _ _ _ _, fun i t e h => by simp at h⟩
theorem MkI.step (K : Kept P) {vss : List (List Value)} (el : vss.length = k) (hn : ∀ v ∈ vss, v.length = n)
    (hf : ∀ (i : Nat) vs e, vss[i]? = some vs → l[i]? = some e → P (fun b => Fresh base wr.heap.size b ∧ out.ownBlock ≠ some b) wr e vs)
    (hlt : ∀ g, out.ownBlock = some g → base ≤ g ∧ g < wr.heap.size)
    (vs : List Value) (e : α) (he : l[k]? = some e) (hvn : vs.length = n) (s0 : base ≤ wr.heap.size) (b5 : Below wr.heap.size wr W)
    (hv : P (Fresh wr.heap.size W.heap.size) W e vs) (hg : W.grownBy w7 out.ownBlock)
    (ho : w7.ownsRow base T n out' (k + 1) (vss.flatten ++ vs)) (hb : out'.ownBlock = out.ownBlock ∨ out'.ownBlock = some W.heap.size) : MkI T n P base l (k + 1) out' w7 := by
  have s5 := b5.size
  have s7 := hg.size
  have ne : ∀ b, b < W.heap.size → out.ownBlock ≠ some b → out'.ownBlock ≠ some b := fun b h1 h2 h3 => by
    rcases hb with q | q
    · exact h2 (q ▸ h3)
    · rw [q] at h3; simp at h3; omega
  refine ⟨vss ++ [vs], by simp [el], fun v hv => ?_, by rw [List.flatten_append]; simpa using ho, fun i t' e' ht hl => ?_⟩
  · rcases List.mem_append.1 hv with q | q
    · exact hn v q
    · rw [List.mem_singleton.1 q]; exact hvn
  by_cases hi : i < k
  · rw [List.getElem?_append_left (by omega)] at ht
    have h := hf i t' e' ht hl
    refine K.sub (fun b hb => ⟨⟨hb.1.1, by have := hb.1.2; omega⟩, ne b (by have := hb.1.2; omega) hb.2⟩) (K.fr (w' := w7) h fun q hq => ?_)
    have q2 := hq.1.2
    refine World.cell?_of_block ?_
    exact (hg.block _ (by omega) (fun h => hq.2 h.symm)).trans (b5.block _ q2)
  · have ik : i = k := by
      have := (List.getElem?_eq_some_iff.1 ht).1
      simp at this
      omega
    subst ik
    rw [List.getElem?_append_right (by omega), el] at ht
    simp at ht
    subst ht
    rw [he] at hl
    cases hl
    have no : ∀ b, wr.heap.size ≤ b → out.ownBlock ≠ some b := fun b h1 h2 => by have := (hlt b h2).2; omega
    refine K.sub (fun b hb => ⟨⟨by have := hb.1; omega, by have := hb.2; omega⟩, ne b (by have := hb.2; omega) (no b hb.1)⟩) (K.fr (w' := w7) hv fun q hq => ?_)
    have q1 := hq.1
    have q2 := hq.2
    refine World.cell?_of_block ?_
    exact hg.block _ (by omega) (fun h => no _ q1 h.symm)
/-- The row that was made. -/
theorem MkI.done (K : Kept P) (h : MkI T n P base l l.length out wr) (hf : few l.length) : ∃ y c, out = .slice y l.length c ∧ RwF n (P (Fresh base wr.heap.size) wr) (Fresh base wr.heap.size) wr y l := by
  obtain ⟨vss, el, hn, ho, hv⟩ := h
  obtain ⟨y, c, e, h0, ha⟩ := own_rows ho hn el
  refine ⟨y, c, e, hf, fun q => List.length_eq_zero_iff.1 (h0 q), fun a q i t ht => ?_⟩
  obtain ⟨h1, h2, h3⟩ := ha a q
  have il : i < l.length := (List.getElem?_eq_some_iff.1 ht).1
  obtain ⟨vs, hvs⟩ : ∃ vs, vss[i]? = some vs := ⟨_, List.getElem?_eq_getElem (by omega)⟩
  exact ⟨h1, vs, K.sub (fun b hb => hb.1) (hv i vs t hvs ht), h3 i vs hvs⟩
end
/-- The cells of records that lie in cells of their own. -/
abbrev Is {α : Type} (cs : α → List Value) : α → List Value → Prop := fun e vs => vs = cs e
section
variable {α : Type} {n : Nat} {cs : α → List Value} {S : Nat → Prop} {w : World} {l : List α} {a : Addr}
theorem RwF.flat (hn : ∀ e, (cs e).length = n) (h : RwF n (Is cs) S w (.some a) l) : ∀ (j : Nat) u, (l.map cs).flatten[j]? = .some u → w.cell? (a.add j) = .some u := by
  intro j u hu
  obtain ⟨i, r, vs, h1, rfl, h3⟩ := flat_ex (n := n) (l.map cs) (by intro v hv; obtain ⟨e, _, rfl⟩ := List.mem_map.1 hv; exact hn e) j u hu
  rw [List.getElem?_map] at h1
  obtain ⟨e, he, rfl⟩ := Option.map_eq_some_iff.1 h1
  obtain ⟨_, vs, rfl, hc⟩ := h.2.2 a rfl i e he
  have := hc r u h3
  rwa [ad_off] at this
theorem own_rw (hn : ∀ e, (cs e).length = n) {T : TypeId} {base : Nat} {x : Value} (h : w.ownsRow base T n x l.length (l.map cs).flatten) (hf : few l.length) : ∃ y c, x = .slice y l.length c ∧ RwF n (Is cs) (Fresh base w.heap.size) w y l := by
  obtain ⟨y, c, e, h0, ha⟩ := own_rows h (by intro v hv; obtain ⟨e, _, rfl⟩ := List.mem_map.1 hv; exact hn e) (by simp)
  refine ⟨y, c, e, hf, fun q => List.length_eq_zero_iff.1 (h0 q), fun a q i t ht => ?_⟩
  obtain ⟨h1, h2, h3⟩ := ha a q
  exact ⟨h1, cs t, rfl, h3 i (cs t) (by rw [List.getElem?_map, ht]; rfl)⟩
end
theorem RwF.old {α : Type} {n : Nat} {P : α → List Value → Prop} {w W : World} {x : Option Addr} {l : List α} (h : RwF n P (fun b => b < w.heap.size) w x l) (hb : Below w.heap.size w W) : RwF n P (fun b => b < W.heap.size) W x l := (h.fr (fun q hq => hb.cell hq)).sub fun b q => Nat.lt_of_lt_of_le q hb.size
end Go.Proofs.YtkickdmomompjaaGreat
namespace Go.Proofs.YtkickdmomompjaaGreat
set_option linter.unusedVariables false
open Go.RowKit
/-- A cell. -/
structure CeR where
  kd : Int
  sb : Bool
  lo : Int
  hi : Int
  mx : Int
  ik : Int
  ib : Int
  is : ByteArray
  kp : Bool
  dr : Int
  ad : ByteArray
/-- An instruction. -/
structure OpR where
  cd : Int
  a : Int
  b : Int
  c : Int
  d : Int
  lo : Int
  hi : Int
  vk : Int
  vb : Int
  vs : ByteArray
/-- A loop. -/
structure LpR where
  hd : Int
  en : Int
  tm : Int
/-- A code. -/
structure FlR where
  nm : ByteArray
  wh : Int
  ce : Int
  ba : Int
  rg : Int
  sl : Int
  os : List OpR
  ls : List LpR
/-- A task. -/
structure JbR where
  nm : ByteArray
  iv : Int
  sg : Int
  pr : Int
  cs : List Int
  bs : List Int
  bd : Int
/-- An image. -/
structure ImR where
  nm : ByteArray
  cs : List CeR
  fs : List FlR
  js : List JbR
abbrev ceC (c : CeR) : List Value := [.int .u8 c.kd, .bool c.sb, .int .i64 c.lo, .int .i64 c.hi, .int .i64 c.mx, .int .u8 c.ik, .int .u64 c.ib, .string c.is, .bool c.kp, .int .i64 c.dr, .string c.ad]
abbrev opC (o : OpR) : List Value := [.int .i64 o.cd, .int .i64 o.a, .int .i64 o.b, .int .i64 o.c, .int .i64 o.d, .int .i64 o.lo, .int .i64 o.hi, .int .u8 o.vk, .int .u64 o.vb, .string o.vs]
abbrev lpC (l : LpR) : List Value := [.int .i64 l.hd, .int .i64 l.en, .int .i64 l.tm]
abbrev inC (n : Int) : List Value := [.int .i64 n]
/-- The cells of a code. -/
abbrev flC (f : FlR) (o l : Value) : List Value := [.string f.nm, .int .i64 f.wh, .int .i64 f.ce, .int .i64 f.ba, .int .i64 f.rg, .int .i64 f.sl, o, l]
abbrev jbC (j : JbR) (c b : Value) : List Value := [.string j.nm, .int .i64 j.iv, .int .i64 j.sg, .int .i64 j.pr, c, b, .int .i64 j.bd]
abbrev imC (m : ImR) (c f j : Value) : List Value := [.string m.nm, c, f, j]
/-- A code's parts. -/
def FlQ (S : Nat → Prop) (w : World) (f : FlR) (x1 x2 : Option Addr) : Prop := RwF 10 (Is opC) S w x1 f.os ∧ RwF 3 (Is lpC) S w x2 f.ls
def FlP (S : Nat → Prop) (w : World) (f : FlR) (vs : List Value) : Prop := ∃ x1 c1 x2 c2, vs = flC f (.slice x1 f.os.length c1) (.slice x2 f.ls.length c2) ∧ FlQ S w f x1 x2
/-- A task's parts. -/
def JbQ (S : Nat → Prop) (w : World) (j : JbR) (x1 x2 : Option Addr) : Prop := RwF 1 (Is inC) S w x1 j.cs ∧ RwF 1 (Is inC) S w x2 j.bs
def JbP (S : Nat → Prop) (w : World) (j : JbR) (vs : List Value) : Prop := ∃ x1 c1 x2 c2, vs = jbC j (.slice x1 j.cs.length c1) (.slice x2 j.bs.length c2) ∧ JbQ S w j x1 x2
/-- An image's parts. -/
def ImQ (S : Nat → Prop) (w : World) (m : ImR) (x1 x2 x3 : Option Addr) : Prop := RwF 11 (Is ceC) S w x1 m.cs ∧ RwF 8 (FlP S w) S w x2 m.fs ∧ RwF 7 (JbP S w) S w x3 m.js
theorem FlQ.fr {S : Nat → Prop} {w w' : World} {f : FlR} {x1 x2 : Option Addr} (h : FlQ S w f x1 x2) (k : FrS S w w') : FlQ S w' f x1 x2 := ⟨h.1.fr k, h.2.fr k⟩
theorem FlQ.sub {S T : Nat → Prop} (hST : ∀ b, S b → T b) {w : World} {f : FlR} {x1 x2 : Option Addr} (h : FlQ S w f x1 x2) : FlQ T w f x1 x2 := ⟨h.1.sub hST, h.2.sub hST⟩
theorem JbQ.fr {S : Nat → Prop} {w w' : World} {f : JbR} {x1 x2 : Option Addr} (h : JbQ S w f x1 x2) (k : FrS S w w') : JbQ S w' f x1 x2 := ⟨h.1.fr k, h.2.fr k⟩
theorem JbQ.sub {S T : Nat → Prop} (hST : ∀ b, S b → T b) {w : World} {f : JbR} {x1 x2 : Option Addr} (h : JbQ S w f x1 x2) : JbQ T w f x1 x2 := ⟨h.1.sub hST, h.2.sub hST⟩
theorem keptF : Kept FlP where
  fr := fun ⟨x1, c1, x2, c2, e, h⟩ k => ⟨x1, c1, x2, c2, e, h.fr k⟩
  sub := fun hST ⟨x1, c1, x2, c2, e, h⟩ => ⟨x1, c1, x2, c2, e, h.sub hST⟩
theorem keptJ : Kept JbP where
  fr := fun ⟨x1, c1, x2, c2, e, h⟩ k => ⟨x1, c1, x2, c2, e, h.fr k⟩
  sub := fun hST ⟨x1, c1, x2, c2, e, h⟩ => ⟨x1, c1, x2, c2, e, h.sub hST⟩
theorem RwF.frK {α : Type} {n : Nat} {P : (Nat → Prop) → World → α → List Value → Prop} (K : Kept P) {S : Nat → Prop} {w w' : World} {x : Option Addr} {l : List α} (h : RwF n (P S w) S w x l) (f : FrS S w w') : RwF n (P S w') S w' x l := (h.fr f).imp fun e vs _ q => K.fr q f
theorem RwF.subK {α : Type} {n : Nat} {P : (Nat → Prop) → World → α → List Value → Prop} (K : Kept P) {S T : Nat → Prop} (hST : ∀ b, S b → T b) {w : World} {x : Option Addr} {l : List α} (h : RwF n (P S w) S w x l) : RwF n (P T w) T w x l := (h.sub hST).imp fun e vs _ q => K.sub hST q
theorem ImQ.fr {S : Nat → Prop} {w w' : World} {m : ImR} {x1 x2 x3 : Option Addr} (h : ImQ S w m x1 x2 x3) (k : FrS S w w') : ImQ S w' m x1 x2 x3 := ⟨h.1.fr k, h.2.1.frK keptF k, h.2.2.frK keptJ k⟩
theorem ImQ.sub {S T : Nat → Prop} (hST : ∀ b, S b → T b) {w : World} {m : ImR} {x1 x2 x3 : Option Addr} (h : ImQ S w m x1 x2 x3) : ImQ T w m x1 x2 x3 := ⟨h.1.sub hST, h.2.1.subK keptF hST, h.2.2.subK keptJ hST⟩
theorem ImQ.old {w W : World} {m : ImR} {x1 x2 x3 : Option Addr} (h : ImQ (fun b => b < w.heap.size) w m x1 x2 x3) (hb : Below w.heap.size w W) : ImQ (fun b => b < W.heap.size) W m x1 x2 x3 := (h.fr (fun q hq => hb.cell hq)).sub fun b q => Nat.lt_of_lt_of_le q hb.size
theorem FlQ.old {w W : World} {m : FlR} {x1 x2 : Option Addr} (h : FlQ (fun b => b < w.heap.size) w m x1 x2) (hb : Below w.heap.size w W) : FlQ (fun b => b < W.heap.size) W m x1 x2 := (h.fr (fun q hq => hb.cell hq)).sub fun b q => Nat.lt_of_lt_of_le q hb.size
theorem JbQ.old {w W : World} {m : JbR} {x1 x2 : Option Addr} (h : JbQ (fun b => b < w.heap.size) w m x1 x2) (hb : Below w.heap.size w W) : JbQ (fun b => b < W.heap.size) W m x1 x2 := (h.fr (fun q hq => hb.cell hq)).sub fun b q => Nat.lt_of_lt_of_le q hb.size
end Go.Proofs.YtkickdmomompjaaGreat
namespace Go.Proofs.YtkickdmomompjaaGreat
set_option linter.unusedVariables false
open Go.RowKit Go.ChangeShapes Go.WideShapes Go.ChangeAt
/-- A number that its kind has. -/
def wfI (k : IntKind) (n : Int) : Prop := (Lit.int k n).wf = true
/-- A text that is not too long. -/
def shT (s : ByteArray) : Prop := s.size ≤ 4194304
/-- Its numbers are of their kinds. -/
def CeOk (x : CeR) : Prop := wfI .u8 x.kd ∧ wfI .i64 x.lo ∧ wfI .i64 x.hi ∧ wfI .i64 x.mx ∧ wfI .u8 x.ik ∧ wfI .u64 x.ib ∧ shT x.is ∧ wfI .i64 x.dr ∧ shT x.ad
/-- Its numbers are of their kinds. -/
def OpOk (x : OpR) : Prop := wfI .i64 x.cd ∧ wfI .i64 x.a ∧ wfI .i64 x.b ∧ wfI .i64 x.c ∧ wfI .i64 x.d ∧ wfI .i64 x.lo ∧ wfI .i64 x.hi ∧ wfI .u8 x.vk ∧ wfI .u64 x.vb ∧ shT x.vs
/-- Its numbers are of their kinds. -/
def LpOk (x : LpR) : Prop := wfI .i64 x.hd ∧ wfI .i64 x.en ∧ wfI .i64 x.tm
def FlOk (f : FlR) : Prop := shT f.nm ∧ wfI .i64 f.wh ∧ wfI .i64 f.ce ∧ wfI .i64 f.ba ∧ wfI .i64 f.rg ∧ wfI .i64 f.sl ∧ (∀ o ∈ f.os, OpOk o) ∧ (∀ o ∈ f.ls, LpOk o) ∧ f.os.length ≤ 1048576 ∧ f.ls.length ≤ 1048576
def JbOk (j : JbR) : Prop := shT j.nm ∧ wfI .i64 j.iv ∧ wfI .i64 j.sg ∧ wfI .i64 j.pr ∧ wfI .i64 j.bd ∧ (∀ o ∈ j.cs, wfI .i64 o) ∧ (∀ o ∈ j.bs, wfI .i64 o) ∧ j.cs.length ≤ 1048576 ∧ j.bs.length ≤ 1048576
def ImOk (m : ImR) : Prop := shT m.nm ∧ (∀ c ∈ m.cs, CeOk c) ∧ (∀ f ∈ m.fs, FlOk f) ∧ (∀ j ∈ m.js, JbOk j) ∧ m.cs.length ≤ 1048576 ∧ m.fs.length ≤ 1048576 ∧ m.js.length ≤ 1048576
theorem RwF.each {α : Type} {n : Nat} {P : α → List Value → Prop} {S : Nat → Prop} {w : World} {x : Option Addr} {l : List α} (h : RwF n P S w x l) : ∀ e ∈ l, ∃ vs, P e vs := by
  intro e he
  cases x with
  | none => rw [h.2.1 rfl] at he; cases he
  | some a =>
    obtain ⟨i, hi⟩ := List.mem_iff_getElem?.1 he
    obtain ⟨_, vs, hp, _⟩ := h.2.2 a rfl i e hi
    exact ⟨vs, hp⟩
section
variable {H : Type} {enc : TypeId × Value → H} {w : World} {base : Nat} {spare : Nat → Bool} {held : Bool}
theorem rd_rows {α : Type} {P : α → List Value → Prop} {fuel : Nat} {t e : TypeId} {v : Value} {x : DataW H × List MemPlace} (ht : Tryz.prog.underlying t = some (.slice e)) (k : Nat) (k0 : 0 < k) (hk : Tryz.prog.cellsOf e = k)
    (hR : ∀ (m : Nat) cs (y : DataW H × List MemPlace), DataW.trod enc Tryz.prog w base spare held m e cs = some y → cs.length = k → Rows.uptoBulk y.1 ≤ 1048576 → ∃ r, P r cs)
    (h : DataW.trod enc Tryz.prog w base spare held fuel t [v] = some x) (hb : Rows.uptoBulk x.1 ≤ 1048576) : ∃ a l c, v = .slice a (List.length l) c ∧ RwF k P (fun b => b < w.heap.size) w a l ∧ l.length ≤ 1048576 := by
  rcases rd_slice ht k hk h with rfl | ⟨a, len, cap, m, hm, rfl, hl, hi⟩
  · exact ⟨none, [], 0, rfl, RwF.nil _ _ _ _, Nat.zero_le _⟩
  · obtain ⟨l, hn, hp⟩ := pick_lt (fun i (r : α) => a.block < w.heap.size ∧ ∃ vs, P r vs ∧ CsAt w (a.add (i * k)) vs) len fun i hlt => by
      obtain ⟨cs, y, g, hc, ht, hy⟩ := hi i hlt
      obtain ⟨r, hr⟩ := hR m cs y ht hc (by omega)
      have cc : CsAt w (a.add (i * k)) cs := fun j u hu => by
        have lj : j < k := by have := (List.getElem?_eq_some_iff.1 hu).1; omega
        rw [ad_off, g j lj, hu]
      refine ⟨r, ?_, cs, hr, cc⟩
      have c0 := cc 0 (cs[0]'(by omega)) (List.getElem?_eq_getElem _)
      have := block_lt_of_cell c0
      rwa [add_block, add_block] at this
    refine ⟨some a, l, cap, by rw [hn], ⟨by show l.length < _; omega, fun e => (by cases e), fun b e i s hs => ?_⟩, by omega⟩
    cases e
    exact hp i s hs
theorem rd_int {fuel : Nat} {cs : List Value} {y : DataW H × List MemPlace} (h : DataW.trod enc Tryz.prog w base spare held fuel 3 cs = some y) : ∃ z, cs = [.int .i64 z] ∧ wfI .i64 z := by
  obtain ⟨z, e, _, q⟩ := DataW.trod_int Tryz.underlying3 h
  exact ⟨z, e, q⟩
theorem rd_u64 {fuel : Nat} {cs : List Value} {y : DataW H × List MemPlace} (h : DataW.trod enc Tryz.prog w base spare held fuel 52 cs = some y) : ∃ z, cs = [.int .u64 z] ∧ wfI .u64 z := by
  obtain ⟨z, e, _, q⟩ := DataW.trod_int Tryz.underlying52 h
  exact ⟨z, e, q⟩
theorem rd_kind {fuel : Nat} {cs : List Value} {y : DataW H × List MemPlace} (h : DataW.trod enc Tryz.prog w base spare held fuel 51 cs = some y) : ∃ z, cs = [.int .u8 z] ∧ wfI .u8 z := by
  obtain ⟨z, e, _, q⟩ := DataW.trod_int Tryz.underlying51 h
  exact ⟨z, e, q⟩
theorem rd_str {fuel : Nat} {cs : List Value} {y : DataW H × List MemPlace} (h : DataW.trod enc Tryz.prog w base spare held fuel 9 cs = some y) (hb : Rows.uptoBulk y.1 ≤ 1048576) : ∃ z, cs = [.string z] ∧ shT z := by
  obtain ⟨z, e, rfl, _⟩ := DataW.trod_string Tryz.underlying9 h
  refine ⟨z, e, ?_⟩
  simp only [Rows.uptoBulk] at hb
  have : z.data.toList.length = z.size := Array.length_toList
  unfold shT
  omega
theorem rd_bool {fuel : Nat} {cs : List Value} {y : DataW H × List MemPlace} (h : DataW.trod enc Tryz.prog w base spare held fuel 4 cs = some y) : ∃ z, cs = [.bool z] := by
  obtain ⟨z, e, _⟩ := DataW.trod_bool Tryz.underlying4 h
  exact ⟨z, e⟩
set_option maxRecDepth 20000 in
theorem rd_val {fuel : Nat} {c0 c1 c2 : Value} {y : DataW H × List MemPlace} (h : DataW.trod enc Tryz.prog w base spare held fuel 54 [c0, c1, c2] = some y) (hb : Rows.uptoBulk y.1 ≤ 1048576) : ∃ k b s, c0 = .int .u8 k ∧ c1 = .int .u64 b ∧ c2 = .string s ∧ wfI .u8 k ∧ wfI .u64 b ∧ shT s := by
  obtain ⟨xs, m, _, hx, _, hl, hf⟩ := rd_struct (by kernel_rfl) fieldsV h
  match xs, hl with
  | [u0, u1, u2], _ =>
    have j0 : DataW.trod enc Tryz.prog w base spare held m 51 [c0] = some u0 := hf 0 _ _ rfl
    have j1 : DataW.trod enc Tryz.prog w base spare held m 52 [c1] = some u1 := hf 1 _ _ rfl
    have j2 : DataW.trod enc Tryz.prog w base spare held m 9 [c2] = some u2 := hf 2 _ _ rfl
    simp only [hx, List.map_cons, List.map_nil, Rows.uptoBulk, Rows.uptoBulkAll] at hb
    obtain ⟨z0, e0, q0⟩ := rd_kind j0
    obtain ⟨z1, e1, q1⟩ := rd_u64 j1
    obtain ⟨z2, e2, q2⟩ := rd_str j2 (by omega)
    simp only [List.cons.injEq, and_true] at e0 e1 e2
    exact ⟨z0, z1, z2, e0, e1, e2, q0, q1, q2⟩
theorem fieldsCei : ((Tryz.prog.fieldsOf 56).map (fun f => (f.type, f.offset))).toList = [(51, 0), (4, 1), (3, 2), (3, 3), (3, 4), (54, 5), (4, 8), (3, 9), (9, 10)] := by kernel_rfl
set_option maxRecDepth 100000 in
theorem rd_Cei {fuel : Nat} {cs : List Value} {y : DataW H × List MemPlace} (h : DataW.trod enc Tryz.prog w base spare held fuel 56 cs = some y) (hn : cs.length = 11) (hb : Rows.uptoBulk y.1 ≤ 1048576) : ∃ r, cs = ceC r ∧ CeOk r := by
  obtain ⟨xs, m2, hm2, hx, _, hxl, hf⟩ := rd_struct (by kernel_rfl) fieldsCei h
  match cs, hn with
  | [c0, c1, c2, c3, c4, c5, c6, c7, c8, c9, c10], _ =>
    match xs, hxl with
    | [y0, y1, y2, y3, y4, y5, y6, y7, y8], _ =>
      have k0 : DataW.trod enc Tryz.prog w base spare held m2 51 [c0] = some y0 := hf 0 _ _ rfl
      have k1 : DataW.trod enc Tryz.prog w base spare held m2 4 [c1] = some y1 := hf 1 _ _ rfl
      have k2 : DataW.trod enc Tryz.prog w base spare held m2 3 [c2] = some y2 := hf 2 _ _ rfl
      have k3 : DataW.trod enc Tryz.prog w base spare held m2 3 [c3] = some y3 := hf 3 _ _ rfl
      have k4 : DataW.trod enc Tryz.prog w base spare held m2 3 [c4] = some y4 := hf 4 _ _ rfl
      have k5 : DataW.trod enc Tryz.prog w base spare held m2 54 [c5, c6, c7] = some y5 := hf 5 _ _ rfl
      have k6 : DataW.trod enc Tryz.prog w base spare held m2 4 [c8] = some y6 := hf 6 _ _ rfl
      have k7 : DataW.trod enc Tryz.prog w base spare held m2 3 [c9] = some y7 := hf 7 _ _ rfl
      have k8 : DataW.trod enc Tryz.prog w base spare held m2 9 [c10] = some y8 := hf 8 _ _ rfl
      simp only [hx, List.map_cons, List.map_nil, Rows.uptoBulk, Rows.uptoBulkAll] at hb
      obtain ⟨zkd, e0, qkd⟩ := rd_kind k0
      obtain ⟨zsb, e1⟩ := rd_bool k1
      obtain ⟨zlo, e2, qlo⟩ := rd_int k2
      obtain ⟨zhi, e3, qhi⟩ := rd_int k3
      obtain ⟨zmx, e4, qmx⟩ := rd_int k4
      obtain ⟨zik, zib, zis, rfl, rfl, rfl, qik, qib, qis⟩ := rd_val k5 (by omega)
      obtain ⟨zkp, e6⟩ := rd_bool k6
      obtain ⟨zdr, e7, qdr⟩ := rd_int k7
      obtain ⟨zad, e8, qad⟩ := rd_str k8 (by omega)
      simp only [List.cons.injEq, and_true] at e0 e1 e2 e3 e4 e6 e7 e8
      subst e0 e1 e2 e3 e4 e6 e7 e8
      exact ⟨⟨zkd, zsb, zlo, zhi, zmx, zik, zib, zis, zkp, zdr, zad⟩, rfl, qkd, qlo, qhi, qmx, qik, qib, qis, qdr, qad⟩
theorem rd_CeL {fuel : Nat} {v : Value} {x : DataW H × List MemPlace} (h : DataW.trod enc Tryz.prog w base spare held fuel 22 [v] = some x) (hb : Rows.uptoBulk x.1 ≤ 1048576) : ∃ a l c, v = .slice a (List.length l) c ∧ (RwF 11 (Is ceC) (fun b => b < w.heap.size) w a l ∧ ∀ e ∈ l, CeOk e) ∧ l.length ≤ 1048576 := by
  obtain ⟨a, l, c, e, hr, hl⟩ := rd_rows (P := fun e vs => vs = ceC e ∧ CeOk e) Tryz.underlying22 11 (by decide) (by kernel_rfl) (fun m cs y h1 h2 h3 => rd_Cei h1 h2 h3) h hb
  exact ⟨a, l, c, e, ⟨hr.imp fun e vs _ q => q.1, fun e he => by obtain ⟨vs, q⟩ := hr.each e he; exact q.2⟩, hl⟩
theorem fieldsOpi : ((Tryz.prog.fieldsOf 88).map (fun f => (f.type, f.offset))).toList = [(3, 0), (3, 1), (3, 2), (3, 3), (3, 4), (3, 5), (3, 6), (54, 7)] := by kernel_rfl
set_option maxRecDepth 100000 in
theorem rd_Opi {fuel : Nat} {cs : List Value} {y : DataW H × List MemPlace} (h : DataW.trod enc Tryz.prog w base spare held fuel 88 cs = some y) (hn : cs.length = 10) (hb : Rows.uptoBulk y.1 ≤ 1048576) : ∃ r, cs = opC r ∧ OpOk r := by
  obtain ⟨xs, m2, hm2, hx, _, hxl, hf⟩ := rd_struct (by kernel_rfl) fieldsOpi h
  match cs, hn with
  | [c0, c1, c2, c3, c4, c5, c6, c7, c8, c9], _ =>
    match xs, hxl with
    | [y0, y1, y2, y3, y4, y5, y6, y7], _ =>
      have k0 : DataW.trod enc Tryz.prog w base spare held m2 3 [c0] = some y0 := hf 0 _ _ rfl
      have k1 : DataW.trod enc Tryz.prog w base spare held m2 3 [c1] = some y1 := hf 1 _ _ rfl
      have k2 : DataW.trod enc Tryz.prog w base spare held m2 3 [c2] = some y2 := hf 2 _ _ rfl
      have k3 : DataW.trod enc Tryz.prog w base spare held m2 3 [c3] = some y3 := hf 3 _ _ rfl
      have k4 : DataW.trod enc Tryz.prog w base spare held m2 3 [c4] = some y4 := hf 4 _ _ rfl
      have k5 : DataW.trod enc Tryz.prog w base spare held m2 3 [c5] = some y5 := hf 5 _ _ rfl
      have k6 : DataW.trod enc Tryz.prog w base spare held m2 3 [c6] = some y6 := hf 6 _ _ rfl
      have k7 : DataW.trod enc Tryz.prog w base spare held m2 54 [c7, c8, c9] = some y7 := hf 7 _ _ rfl
      simp only [hx, List.map_cons, List.map_nil, Rows.uptoBulk, Rows.uptoBulkAll] at hb
      obtain ⟨zcd, e0, qcd⟩ := rd_int k0
      obtain ⟨za, e1, qa⟩ := rd_int k1
      obtain ⟨zb, e2, qb⟩ := rd_int k2
      obtain ⟨zc, e3, qc⟩ := rd_int k3
      obtain ⟨zd, e4, qd⟩ := rd_int k4
      obtain ⟨zlo, e5, qlo⟩ := rd_int k5
      obtain ⟨zhi, e6, qhi⟩ := rd_int k6
      obtain ⟨zvk, zvb, zvs, rfl, rfl, rfl, qvk, qvb, qvs⟩ := rd_val k7 (by omega)
      simp only [List.cons.injEq, and_true] at e0 e1 e2 e3 e4 e5 e6
      subst e0 e1 e2 e3 e4 e5 e6
      exact ⟨⟨zcd, za, zb, zc, zd, zlo, zhi, zvk, zvb, zvs⟩, rfl, qcd, qa, qb, qc, qd, qlo, qhi, qvk, qvb, qvs⟩
theorem rd_OpL {fuel : Nat} {v : Value} {x : DataW H × List MemPlace} (h : DataW.trod enc Tryz.prog w base spare held fuel 63 [v] = some x) (hb : Rows.uptoBulk x.1 ≤ 1048576) : ∃ a l c, v = .slice a (List.length l) c ∧ (RwF 10 (Is opC) (fun b => b < w.heap.size) w a l ∧ ∀ e ∈ l, OpOk e) ∧ l.length ≤ 1048576 := by
  obtain ⟨a, l, c, e, hr, hl⟩ := rd_rows (P := fun e vs => vs = opC e ∧ OpOk e) Tryz.underlying63 10 (by decide) (by kernel_rfl) (fun m cs y h1 h2 h3 => rd_Opi h1 h2 h3) h hb
  exact ⟨a, l, c, e, ⟨hr.imp fun e vs _ q => q.1, fun e he => by obtain ⟨vs, q⟩ := hr.each e he; exact q.2⟩, hl⟩
theorem fieldsLpi : ((Tryz.prog.fieldsOf 103).map (fun f => (f.type, f.offset))).toList = [(3, 0), (3, 1), (3, 2)] := by kernel_rfl
set_option maxRecDepth 100000 in
theorem rd_Lpi {fuel : Nat} {cs : List Value} {y : DataW H × List MemPlace} (h : DataW.trod enc Tryz.prog w base spare held fuel 103 cs = some y) (hn : cs.length = 3) (hb : Rows.uptoBulk y.1 ≤ 1048576) : ∃ r, cs = lpC r ∧ LpOk r := by
  obtain ⟨xs, m2, hm2, hx, _, hxl, hf⟩ := rd_struct (by kernel_rfl) fieldsLpi h
  match cs, hn with
  | [c0, c1, c2], _ =>
    match xs, hxl with
    | [y0, y1, y2], _ =>
      have k0 : DataW.trod enc Tryz.prog w base spare held m2 3 [c0] = some y0 := hf 0 _ _ rfl
      have k1 : DataW.trod enc Tryz.prog w base spare held m2 3 [c1] = some y1 := hf 1 _ _ rfl
      have k2 : DataW.trod enc Tryz.prog w base spare held m2 3 [c2] = some y2 := hf 2 _ _ rfl
      simp only [hx, List.map_cons, List.map_nil, Rows.uptoBulk, Rows.uptoBulkAll] at hb
      obtain ⟨zhd, e0, qhd⟩ := rd_int k0
      obtain ⟨zen, e1, qen⟩ := rd_int k1
      obtain ⟨ztm, e2, qtm⟩ := rd_int k2
      simp only [List.cons.injEq, and_true] at e0 e1 e2
      subst e0 e1 e2
      exact ⟨⟨zhd, zen, ztm⟩, rfl, qhd, qen, qtm⟩
theorem rd_LpL {fuel : Nat} {v : Value} {x : DataW H × List MemPlace} (h : DataW.trod enc Tryz.prog w base spare held fuel 64 [v] = some x) (hb : Rows.uptoBulk x.1 ≤ 1048576) : ∃ a l c, v = .slice a (List.length l) c ∧ (RwF 3 (Is lpC) (fun b => b < w.heap.size) w a l ∧ ∀ e ∈ l, LpOk e) ∧ l.length ≤ 1048576 := by
  obtain ⟨a, l, c, e, hr, hl⟩ := rd_rows (P := fun e vs => vs = lpC e ∧ LpOk e) Tryz.underlying64 3 (by decide) (by kernel_rfl) (fun m cs y h1 h2 h3 => rd_Lpi h1 h2 h3) h hb
  exact ⟨a, l, c, e, ⟨hr.imp fun e vs _ q => q.1, fun e he => by obtain ⟨vs, q⟩ := hr.each e he; exact q.2⟩, hl⟩
theorem rd_InL {fuel : Nat} {v : Value} {x : DataW H × List MemPlace} (h : DataW.trod enc Tryz.prog w base spare held fuel 59 [v] = some x) (hb : Rows.uptoBulk x.1 ≤ 1048576) : ∃ a l c, v = .slice a (List.length l) c ∧ (RwF 1 (Is inC) (fun b => b < w.heap.size) w a l ∧ ∀ e ∈ l, wfI .i64 e) ∧ l.length ≤ 1048576 := by
  obtain ⟨a, l, c, e, hr, hl⟩ := rd_rows (P := fun e vs => vs = inC e ∧ wfI .i64 e) Tryz.underlying59 1 (by decide) (by kernel_rfl) (fun m cs y h1 h2 h3 => by obtain ⟨z, e, q⟩ := rd_int h1; exact ⟨z, e, q⟩) h hb
  exact ⟨a, l, c, e, ⟨hr.imp fun e vs _ q => q.1, fun e he => by obtain ⟨vs, q⟩ := hr.each e he; exact q.2⟩, hl⟩
theorem fieldsFli : ((Tryz.prog.fieldsOf 66).map (fun f => (f.type, f.offset))).toList = [(9, 0), (3, 1), (3, 2), (3, 3), (3, 4), (3, 5), (63, 6), (64, 7)] := by kernel_rfl
set_option maxRecDepth 100000 in
theorem rd_Fli {fuel : Nat} {cs : List Value} {y : DataW H × List MemPlace} (h : DataW.trod enc Tryz.prog w base spare held fuel 66 cs = some y) (hn : cs.length = 8) (hb : Rows.uptoBulk y.1 ≤ 1048576) : ∃ r, FlP (fun b => b < w.heap.size) w r cs ∧ FlOk r := by
  obtain ⟨xs, m2, hm2, hx, _, hxl, hf⟩ := rd_struct (by kernel_rfl) fieldsFli h
  match cs, hn with
  | [c0, c1, c2, c3, c4, c5, c6, c7], _ =>
    match xs, hxl with
    | [y0, y1, y2, y3, y4, y5, y6, y7], _ =>
      have k0 : DataW.trod enc Tryz.prog w base spare held m2 9 [c0] = some y0 := hf 0 _ _ rfl
      have k1 : DataW.trod enc Tryz.prog w base spare held m2 3 [c1] = some y1 := hf 1 _ _ rfl
      have k2 : DataW.trod enc Tryz.prog w base spare held m2 3 [c2] = some y2 := hf 2 _ _ rfl
      have k3 : DataW.trod enc Tryz.prog w base spare held m2 3 [c3] = some y3 := hf 3 _ _ rfl
      have k4 : DataW.trod enc Tryz.prog w base spare held m2 3 [c4] = some y4 := hf 4 _ _ rfl
      have k5 : DataW.trod enc Tryz.prog w base spare held m2 3 [c5] = some y5 := hf 5 _ _ rfl
      have k6 : DataW.trod enc Tryz.prog w base spare held m2 63 [c6] = some y6 := hf 6 _ _ rfl
      have k7 : DataW.trod enc Tryz.prog w base spare held m2 64 [c7] = some y7 := hf 7 _ _ rfl
      simp only [hx, List.map_cons, List.map_nil, Rows.uptoBulk, Rows.uptoBulkAll] at hb
      obtain ⟨znm, e0, qnm⟩ := rd_str k0 (by omega)
      obtain ⟨zwh, e1, qwh⟩ := rd_int k1
      obtain ⟨zce, e2, qce⟩ := rd_int k2
      obtain ⟨zba, e3, qba⟩ := rd_int k3
      obtain ⟨zrg, e4, qrg⟩ := rd_int k4
      obtain ⟨zsl, e5, qsl⟩ := rd_int k5
      obtain ⟨xos, zos, pos, rfl, qos, los⟩ := rd_OpL k6 (by omega)
      obtain ⟨xls, zls, pls, rfl, qls, lls⟩ := rd_LpL k7 (by omega)
      simp only [List.cons.injEq, and_true] at e0 e1 e2 e3 e4 e5
      subst e0 e1 e2 e3 e4 e5
      exact ⟨⟨znm, zwh, zce, zba, zrg, zsl, zos, zls⟩, ⟨xos, pos, xls, pls, rfl, qos.1, qls.1⟩, qnm, qwh, qce, qba, qrg, qsl, qos.2, qls.2, los, lls⟩
theorem fieldsJbi : ((Tryz.prog.fieldsOf 61).map (fun f => (f.type, f.offset))).toList = [(9, 0), (3, 1), (3, 2), (3, 3), (59, 4), (59, 5), (3, 6)] := by kernel_rfl
set_option maxRecDepth 100000 in
theorem rd_Jbi {fuel : Nat} {cs : List Value} {y : DataW H × List MemPlace} (h : DataW.trod enc Tryz.prog w base spare held fuel 61 cs = some y) (hn : cs.length = 7) (hb : Rows.uptoBulk y.1 ≤ 1048576) : ∃ r, JbP (fun b => b < w.heap.size) w r cs ∧ JbOk r := by
  obtain ⟨xs, m2, hm2, hx, _, hxl, hf⟩ := rd_struct (by kernel_rfl) fieldsJbi h
  match cs, hn with
  | [c0, c1, c2, c3, c4, c5, c6], _ =>
    match xs, hxl with
    | [y0, y1, y2, y3, y4, y5, y6], _ =>
      have k0 : DataW.trod enc Tryz.prog w base spare held m2 9 [c0] = some y0 := hf 0 _ _ rfl
      have k1 : DataW.trod enc Tryz.prog w base spare held m2 3 [c1] = some y1 := hf 1 _ _ rfl
      have k2 : DataW.trod enc Tryz.prog w base spare held m2 3 [c2] = some y2 := hf 2 _ _ rfl
      have k3 : DataW.trod enc Tryz.prog w base spare held m2 3 [c3] = some y3 := hf 3 _ _ rfl
      have k4 : DataW.trod enc Tryz.prog w base spare held m2 59 [c4] = some y4 := hf 4 _ _ rfl
      have k5 : DataW.trod enc Tryz.prog w base spare held m2 59 [c5] = some y5 := hf 5 _ _ rfl
      have k6 : DataW.trod enc Tryz.prog w base spare held m2 3 [c6] = some y6 := hf 6 _ _ rfl
      simp only [hx, List.map_cons, List.map_nil, Rows.uptoBulk, Rows.uptoBulkAll] at hb
      obtain ⟨znm, e0, qnm⟩ := rd_str k0 (by omega)
      obtain ⟨ziv, e1, qiv⟩ := rd_int k1
      obtain ⟨zsg, e2, qsg⟩ := rd_int k2
      obtain ⟨zpr, e3, qpr⟩ := rd_int k3
      obtain ⟨xcs, zcs, pcs, rfl, qcs, lcs⟩ := rd_InL k4 (by omega)
      obtain ⟨xbs, zbs, pbs, rfl, qbs, lbs⟩ := rd_InL k5 (by omega)
      obtain ⟨zbd, e6, qbd⟩ := rd_int k6
      simp only [List.cons.injEq, and_true] at e0 e1 e2 e3 e6
      subst e0 e1 e2 e3 e6
      exact ⟨⟨znm, ziv, zsg, zpr, zcs, zbs, zbd⟩, ⟨xcs, pcs, xbs, pbs, rfl, qcs.1, qbs.1⟩, qnm, qiv, qsg, qpr, qbd, qcs.2, qbs.2, lcs, lbs⟩
theorem rd_FlL {fuel : Nat} {v : Value} {x : DataW H × List MemPlace} (h : DataW.trod enc Tryz.prog w base spare held fuel 23 [v] = some x) (hb : Rows.uptoBulk x.1 ≤ 1048576) : ∃ a l c, v = .slice a (List.length l) c ∧ (RwF 8 (FlP (fun b => b < w.heap.size) w) (fun b => b < w.heap.size) w a l ∧ ∀ e ∈ l, FlOk e) ∧ l.length ≤ 1048576 := by
  obtain ⟨a, l, c, e, hr, hl⟩ := rd_rows (P := fun e vs => FlP (fun b => b < w.heap.size) w e vs ∧ FlOk e) Tryz.underlying23 8 (by decide) (by kernel_rfl) (fun m cs y h1 h2 h3 => rd_Fli h1 h2 h3) h hb
  exact ⟨a, l, c, e, ⟨hr.imp fun e vs _ q => q.1, fun e he => by obtain ⟨vs, q⟩ := hr.each e he; exact q.2⟩, hl⟩
theorem rd_JbL {fuel : Nat} {v : Value} {x : DataW H × List MemPlace} (h : DataW.trod enc Tryz.prog w base spare held fuel 24 [v] = some x) (hb : Rows.uptoBulk x.1 ≤ 1048576) : ∃ a l c, v = .slice a (List.length l) c ∧ (RwF 7 (JbP (fun b => b < w.heap.size) w) (fun b => b < w.heap.size) w a l ∧ ∀ e ∈ l, JbOk e) ∧ l.length ≤ 1048576 := by
  obtain ⟨a, l, c, e, hr, hl⟩ := rd_rows (P := fun e vs => JbP (fun b => b < w.heap.size) w e vs ∧ JbOk e) Tryz.underlying24 7 (by decide) (by kernel_rfl) (fun m cs y h1 h2 h3 => rd_Jbi h1 h2 h3) h hb
  exact ⟨a, l, c, e, ⟨hr.imp fun e vs _ q => q.1, fun e he => by obtain ⟨vs, q⟩ := hr.each e he; exact q.2⟩, hl⟩
theorem fieldsImi : ((Tryz.prog.fieldsOf 26).map (fun f => (f.type, f.offset))).toList = [(9, 0), (22, 1), (23, 2), (24, 3)] := by kernel_rfl
set_option maxRecDepth 100000 in
theorem rd_Imi {fuel : Nat} {cs : List Value} {y : DataW H × List MemPlace} (h : DataW.trod enc Tryz.prog w base spare held fuel 26 cs = some y) (hn : cs.length = 4) (hb : Rows.uptoBulk y.1 ≤ 1048576) : ∃ (m : ImR) (x1 x2 x3 : Option Addr) (c1 c2 c3 : Nat), cs = imC m (.slice x1 m.cs.length c1) (.slice x2 m.fs.length c2) (.slice x3 m.js.length c3) ∧ ImQ (fun b => b < w.heap.size) w m x1 x2 x3 ∧ ImOk m := by
  obtain ⟨xs, m2, hm2, hx, _, hxl, hf⟩ := rd_struct (by kernel_rfl) fieldsImi h
  match cs, hn with
  | [c0, c1, c2, c3], _ =>
    match xs, hxl with
    | [y0, y1, y2, y3], _ =>
      have k0 : DataW.trod enc Tryz.prog w base spare held m2 9 [c0] = some y0 := hf 0 _ _ rfl
      have k1 : DataW.trod enc Tryz.prog w base spare held m2 22 [c1] = some y1 := hf 1 _ _ rfl
      have k2 : DataW.trod enc Tryz.prog w base spare held m2 23 [c2] = some y2 := hf 2 _ _ rfl
      have k3 : DataW.trod enc Tryz.prog w base spare held m2 24 [c3] = some y3 := hf 3 _ _ rfl
      simp only [hx, List.map_cons, List.map_nil, Rows.uptoBulk, Rows.uptoBulkAll] at hb
      obtain ⟨znm, e0, qnm⟩ := rd_str k0 (by omega)
      obtain ⟨xcs, zcs, pcs, rfl, qcs, lcs⟩ := rd_CeL k1 (by omega)
      obtain ⟨xfs, zfs, pfs, rfl, qfs, lfs⟩ := rd_FlL k2 (by omega)
      obtain ⟨xjs, zjs, pjs, rfl, qjs, ljs⟩ := rd_JbL k3 (by omega)
      simp only [List.cons.injEq, and_true] at e0
      subst e0
      exact ⟨⟨znm, zcs, zfs, zjs⟩, xcs, xfs, xjs, pcs, pfs, pjs, rfl, ⟨qcs.1, qfs.1, qjs.1⟩, qnm, qcs.2, qfs.2, qjs.2, lcs, lfs, ljs⟩
end
end Go.Proofs.YtkickdmomompjaaGreat
namespace Go.Proofs.YtkickdmomompjaaGreat
set_option linter.unusedVariables false
open Go.RowKit
theorem ret_bool {a b : Bool} (h : a = b) : Ending.returned (.bool a) = .returned (.bool b) := by rw [h]
theorem ret_int {k : IntKind} {a b : Int} (h : a = b) : Ending.returned (.int k a) = .returned (.int k b) := by rw [h]
/-- Are these bits of a float64 no number? -/
def fnan (n : Nat) : Bool := decide (9218868437227405312 < n % 9223372036854775808)
/-- What the bits of a float64 are, by their rung. -/
theorem read_cases (n : Nat) : (∃ m p, FloatKind.f64.format.read n = .number (n / 9223372036854775808 % 2 == 1) m p ∧ n % 9223372036854775808 < 9218868437227405312) ∨
    (FloatKind.f64.format.read n = .infinity (n / 9223372036854775808 % 2 == 1) ∧ n % 9223372036854775808 = 9218868437227405312) ∨
    (∃ f, FloatKind.f64.format.read n = .nan (n / 9223372036854775808 % 2 == 1) f ∧ 9218868437227405312 < n % 9223372036854775808) := by
  have e : FloatKind.f64.format.read n = (if n % 9223372036854775808 < 4503599627370496 then
        Ieee.Datum.number (n / 9223372036854775808 % 2 == 1) (n % 9223372036854775808) (Ieee.Format.leastPlace Ieee.double)
      else if n % 9223372036854775808 < 9218868437227405312 then
          Ieee.Datum.number (n / 9223372036854775808 % 2 == 1) (4503599627370496 + n % 9223372036854775808 % 4503599627370496)
            (Ieee.Format.leastPlace Ieee.double + ↑(n % 9223372036854775808 / 4503599627370496 - 1))
        else
          if n % 9223372036854775808 = 9218868437227405312 then Ieee.Datum.infinity (n / 9223372036854775808 % 2 == 1)
          else Ieee.Datum.nan (n / 9223372036854775808 % 2 == 1) (n % 9223372036854775808 - 9218868437227405312)) := rfl
  rw [e]
  by_cases h1 : n % 9223372036854775808 < 4503599627370496
  · rw [if_pos h1]; exact .inl ⟨_, _, rfl, by omega⟩
  rw [if_neg h1]
  by_cases h2 : n % 9223372036854775808 < 9218868437227405312
  · rw [if_pos h2]; exact .inl ⟨_, _, rfl, h2⟩
  rw [if_neg h2]
  by_cases h3 : n % 9223372036854775808 = 9218868437227405312
  · rw [if_pos h3]; exact .inr (.inl ⟨rfl, h3⟩)
  rw [if_neg h3]
  exact .inr (.inr ⟨_, rfl, by omega⟩)
theorem compare_self_int (a : Int) : compare a a = .eq := by simp [compare, compareOfLessAndEq]
theorem compare_self_nat (a : Nat) : compare a a = .eq := by simp
theorem order_self (n : Nat) : (FloatKind.f64.format.order n n == some .eq) = !fnan n := by
  unfold Ieee.Format.order fnan
  rcases read_cases n with ⟨m, p, h, g⟩ | ⟨h, g⟩ | ⟨f, h, g⟩
  · rw [h]; simp [Ieee.Datum.order]; omega
  · rw [h]; simp [Ieee.Datum.order]; omega
  · rw [h]; simp [Ieee.Datum.order]; omega
theorem order_self_ne (n : Nat) : (FloatKind.f64.format.order n n != some .eq) = fnan n := by
  rw [bne, order_self]; simp
/-- A signed kind's bits of that half width may be. -/
def sg (h b : Int) : Bool := decide (b < h ∨ 18446744073709551616 - h ≤ b)
/-- May a kind without a text have such bits? -/
def mayW (k b : Int) : Bool :=
  if k = 1 then decide (b ≤ 1) else if k = 2 then sg 128 b else if k = 3 then sg 32768 b else if k = 4 then sg 2147483648 b
  else if k = 5 ∨ k = 9 ∨ k = 13 ∨ k = 14 then true
  else if k = 6 ∨ k = 10 then decide (b < 256) else if k = 7 ∨ k = 11 then decide (b < 65536) else if k = 8 ∨ k = 12 then decide (b < 4294967296)
  else if k = 15 then decide (b < 7258118400000000000 ∧ b % 86400000000000 = 0) else if k = 16 then decide (b < 86400000000000)
  else if k = 17 then decide (b < 7258118400000000000) else if k = 18 then decide (b = 9221120237041090561 ∨ fnan b.toNat = false) else false
/-- The kinds, one by one. -/
theorem kinds (k : Int) (hk : 0 ≤ k ∧ k < 256) : k = 1 ∨ k = 2 ∨ k = 3 ∨ k = 4 ∨ k = 5 ∨ k = 6 ∨ k = 7 ∨ k = 8 ∨ k = 9 ∨ k = 10 ∨ k = 11 ∨ k = 12 ∨ k = 13 ∨ k = 14 ∨ k = 15 ∨ k = 16 ∨ k = 17 ∨ k = 18 ∨ k = 19 ∨ k = 0 ∨ 19 < k := by omega
theorem fw_sg (h b : Int) (h0 : 0 ≤ b) (h1 : b < 18446744073709551616) (g0 : 0 < h) (g1 : h ≤ 9223372036854775808) : (wrap64 b / h == 0 || wrap64 b / h == -1) = sg h b := by
  rw [Bool.eq_iff_iff]
  have e1 : wrap64 b / h = 0 ↔ 0 ≤ wrap64 b ∧ wrap64 b < h := by
    constructor
    · intro e
      have := Int.emod_nonneg (wrap64 b) (b := h) (by omega)
      have := Int.emod_lt_of_pos (wrap64 b) g0
      have := Int.emod_add_mul_ediv (wrap64 b) h
      rw [e] at this; omega
    · rintro ⟨a, c⟩; exact Int.ediv_eq_zero_of_lt a c
  have e2 : wrap64 b / h = -1 ↔ -h ≤ wrap64 b ∧ wrap64 b < 0 := by
    constructor
    · intro e
      have := Int.emod_nonneg (wrap64 b) (b := h) (by omega)
      have := Int.emod_lt_of_pos (wrap64 b) g0
      have := Int.emod_add_mul_ediv (wrap64 b) h
      rw [e] at this; omega
    · rintro ⟨a, c⟩
      have := Int.add_mul_ediv_right (wrap64 b) 1 (c := h) (by omega)
      have : (wrap64 b + 1 * h) / h = 0 := Int.ediv_eq_zero_of_lt (by omega) (by omega)
      omega
  simp only [Bool.or_eq_true, beq_iff_eq, e1, e2, sg, decide_eq_true_eq]
  unfold wrap64
  omega
theorem and_high (n : Nat) : n &&& 9218868437227405312 = n / 4503599627370496 % 2048 * 4503599627370496 := by
  have e : (9218868437227405312 : Nat) = 2047 <<< 52 := by decide
  have h : n &&& (2047 <<< 52) = ((n >>> 52) &&& 2047) <<< 52 := by
    apply Nat.eq_of_testBit_eq
    intro i
    simp only [Nat.testBit_and, Nat.testBit_shiftLeft, Nat.testBit_shiftRight]
    by_cases c : 52 ≤ i
    · simp [c]
    · simp [c]
  rw [e, h, Nat.shiftLeft_eq, Nat.shiftRight_eq_div_pow, show (2047 : Nat) = 2 ^ 11 - 1 from rfl, Nat.and_two_pow_sub_one_eq_mod]
theorem and_low (n : Nat) : n &&& 4503599627370495 = n % 4503599627370496 := Nat.and_two_pow_sub_one_eq_mod n 52
theorem bits_high (b : Int) (h0 : 0 ≤ b) (h1 : b < 18446744073709551616) : bits .and .u64 b 9218868437227405312 = ((b.toNat / 4503599627370496 % 2048 * 4503599627370496 : Nat) : Int) := by
  rw [u64_and b _ h0 h1 (by omega) (by omega)]
  exact congrArg _ (and_high b.toNat)
theorem bits_low (b : Int) (h0 : 0 ≤ b) (h1 : b < 18446744073709551616) : bits .and .u64 b 4503599627370495 = ((b.toNat % 4503599627370496 : Nat) : Int) := by
  rw [u64_and b _ h0 h1 (by omega) (by omega)]
  exact congrArg _ (and_low b.toNat)
theorem fnan_hi (b : Int) (h0 : 0 ≤ b) (h1 : b < 18446744073709551616) (c : bits .and .u64 b 9218868437227405312 = 9218868437227405312) : fnan b.toNat = (bits .and .u64 b 4503599627370495 != 0) := by
  rw [bits_high b h0 h1] at c
  rw [bits_low b h0 h1, Bool.eq_iff_iff]
  simp only [fnan, decide_eq_true_eq, bne_iff_ne, ne_eq]
  generalize b.toNat = n at *
  omega
theorem fnan_lo (b : Int) (h0 : 0 ≤ b) (h1 : b < 18446744073709551616) (c : ¬ bits .and .u64 b 9218868437227405312 = 9218868437227405312) : fnan b.toNat = false := by
  rw [bits_high b h0 h1] at c
  simp only [fnan, decide_eq_false_iff_not]
  generalize b.toNat = n at *
  omega
end Go.Proofs.YtkickdmomompjaaGreat
namespace Go.Proofs.YtkickdmomompjaaGreat
set_option linter.unusedVariables false
open Go.RowKit
/-- An operation that makes memory: its number, the slot of its answer, and what is told of the blocks from lo up to hi, of the answer and of every later world. -/
structure Mkr where
  i : Nat
  d : Nat
  R : Nat → Nat → Value → World → Prop
def setAll (l : Array Bool) (ms : List Mkr) : Array Bool := ms.foldl (fun l m => l.setIfInBounds m.i true) l
def putAll (a : Act) (ms : List Mkr) (val : Nat → Value) : Act := ms.foldl (fun a m => a.put (some m.d) (val m.i)) a
theorem setAll_pick : ∀ (l1 l2 : List Mkr) (m : Mkr) (l : Array Bool), setAll l (l1 ++ m :: l2) = setAll (l.setIfInBounds m.i true) (l1 ++ l2)
  | [], l2, m, l => rfl
  | x :: l1, l2, m, l => by
    show setAll (l.setIfInBounds x.i true) (l1 ++ m :: l2) = setAll ((l.setIfInBounds m.i true).setIfInBounds x.i true) (l1 ++ l2)
    rw [setAll_pick l1 l2 m]
    congr 1
    by_cases h : x.i = m.i
    · rw [h]
    · rw [Array.setIfInBounds_comm _ _ h]
theorem put_comm (a : Act) (d e : Nat) (u v : Value) (h : d ≠ e) : (a.put (some d) u).put (some e) v = (a.put (some e) v).put (some d) u := by
  simp only [Act.put]
  rw [Array.setIfInBounds_comm _ _ h]
theorem putAll_pick (val : Nat → Value) : ∀ (l1 l2 : List Mkr) (m : Mkr) (a : Act), (∀ x ∈ l1, x.d ≠ m.d) → putAll a (l1 ++ m :: l2) val = putAll (a.put (some m.d) (val m.i)) (l1 ++ l2) val
  | [], l2, m, a, _ => rfl
  | x :: l1, l2, m, a, h => by
    show putAll (a.put (some x.d) (val x.i)) (l1 ++ m :: l2) val = putAll ((a.put (some m.d) (val m.i)).put (some x.d) (val x.i)) (l1 ++ l2) val
    rw [putAll_pick val l1 l2 m _ (fun y hy => h y (by simp [hy])), put_comm _ _ _ _ _ (h x (by simp))]
theorem putAll_congr {val val' : Nat → Value} : ∀ (ms : List Mkr) (a : Act), (∀ m ∈ ms, val m.i = val' m.i) → putAll a ms val = putAll a ms val'
  | [], _, _ => rfl
  | x :: ms, a, h => by
    show putAll (a.put (some x.d) (val x.i)) ms val = putAll (a.put (some x.d) (val' x.i)) ms val'
    rw [h x (by simp)]
    exact putAll_congr ms _ fun m hm => h m (by simp [hm])
/-- Whatever order they come up in, only these come up. -/
def rdyB (md : Region.Mode) (ops : Array Oper) : Nat → Array Bool → List Nat → Bool
  | 0, _, is => is.isEmpty
  | n + 1, l, is => is.isEmpty || (!(Region.ready md ops l).isEmpty && (Region.ready md ops l).all (fun i => is.contains i && rdyB md ops n (l.setIfInBounds i true) (is.erase i)))
section
variable {P : Program} {ops : Array Oper} {Q : Exit → Act → World → Prop} {md : Region.Mode} {S : World → Prop}
/-- A quiet operation is taken first; the slot of its answer is named. -/
theorem wpAnyH_takeD {i d : Nat} {oi : Oper} {v : Value} {fuel : Nat} {listed : Array Bool} {a : Act} {w : World} (hi : ops[i]? = some oi) (hd : (ops[i]?).bind (·.dst) = some d)
    (hs : Region.noSelect ops = true) (hf : Region.free md ops listed i = true) (hr : (Region.ready md ops listed).contains i = true)
    (hQ : ∀ c a w, Q (.panic c) (a.put oi.dst v) w → Q (.panic c) a w) (hy : YieldsIf P ops S oi v a) (hS : S w)
    (h : wpAnyH P md ops Q S fuel (listed.setIfInBounds i true) (a.put (some d) v) w) : wpAnyH P md ops Q S (fuel + 1) listed a w := by
  refine wpAnyH_take hi hs hf hr hQ hy hS ?_
  rw [hi] at hd
  have e : oi.dst = some d := hd
  rw [e]
  exact h
/-- What an operation does, wherever it comes up. -/
def Makes (P : Program) (ops : Array Oper) (Q : Exit → Act → World → Prop) (AG : Act → Prop) (W0 : World) (m : Mkr) : Prop :=
  ∀ (a : Act) (w : World) (K : Act → World → Prop), AG a → Below W0.heap.size W0 w → (∀ v w', Below w.heap.size w w' → m.R w.heap.size w'.heap.size v w' → K (a.put (some m.d) v) w') → wpOp P ops Q m.i K a w
theorem wpAnyH_mk (W0 : World) (hS : ∀ w, Below W0.heap.size W0 w → S w) (AG : Act → Prop) (f : Nat) : ∀ (n : Nat) (ms : List Mkr) (listed : Array Bool) (a : Act) (w : World),
    ms.length = n → (ms.map (·.d)).Nodup → (ms.map (·.i)).Nodup → rdyB md ops n listed (ms.map (·.i)) = true → AG a → (∀ a m v, AG a → m ∈ ms → AG (a.put (some m.d) v)) → Below W0.heap.size W0 w →
    (∀ m ∈ ms, Makes P ops Q AG W0 m) → (∀ m ∈ ms, ∀ lo hi v w w', m.R lo hi v w → Below w.heap.size w w' → m.R lo hi v w') →
    (∀ (val : Nat → Value) (lo hi : Nat → Nat) w', Below w.heap.size w w' → (∀ m ∈ ms, w.heap.size ≤ lo m.i ∧ lo m.i ≤ hi m.i ∧ hi m.i ≤ w'.heap.size ∧ m.R (lo m.i) (hi m.i) (val m.i) w') →
      (∀ m ∈ ms, ∀ m' ∈ ms, m.i ≠ m'.i → hi m.i ≤ lo m'.i ∨ hi m'.i ≤ lo m.i) → wpAnyH P md ops Q S f (setAll listed ms) (putAll a ms val) w') →
    wpAnyH P md ops Q S (n + f) listed a w := by
  intro n
  induction n with
  | zero =>
    intro ms listed a w hn _ _ _ _ _ _ _ _ fin
    have e : ms = [] := List.length_eq_zero_iff.1 hn
    subst e
    rw [Nat.zero_add]
    exact fin (fun _ => undef) (fun _ => 0) (fun _ => 0) w (Below.refl _ _) (fun m hm => by cases hm) (fun m hm => by cases hm)
  | succ n ih =>
    intro ms listed a w hn hd hi hr hA hcl hb hmk hmo fin
    rw [Nat.succ_add]
    have ne : ms.map (·.i) ≠ [] := fun e => by rw [List.map_eq_nil_iff] at e; rw [e] at hn; cases hn
    unfold rdyB at hr
    simp only [Bool.or_eq_true, List.isEmpty_iff, Bool.and_eq_true, Bool.not_eq_true', List.all_eq_true] at hr
    rcases hr with hr | ⟨hr0, hr1⟩
    · exact absurd hr ne
    refine ⟨fun e => by rw [e] at hr0; simp at hr0, fun i hir => ?_⟩
    obtain ⟨hc, hrec⟩ := hr1 i hir
    have him : i ∈ ms.map (·.i) := by simpa using hc
    obtain ⟨m, hm, rfl⟩ := List.mem_map.1 him
    obtain ⟨l1, l2, rfl⟩ := List.append_of_mem hm
    have hd1 : ∀ x ∈ l1, x.d ≠ m.d := fun x hx e => by
      rw [List.map_append, List.map_cons, List.nodup_append] at hd
      exact hd.2.2 x.d (List.mem_map_of_mem hx) m.d (by simp) e
    have hi1 : ∀ x ∈ l1, x.i ≠ m.i := fun x hx e => by
      rw [List.map_append, List.map_cons, List.nodup_append] at hi
      exact hi.2.2 x.i (List.mem_map_of_mem hx) m.i (by simp) e
    have hi2 : ∀ x ∈ l2, x.i ≠ m.i := fun x hx e => by
      rw [List.map_append, List.map_cons, List.nodup_append] at hi
      exact (List.nodup_cons.1 hi.2.1).1 (by rw [← e]; exact List.mem_map_of_mem hx)
    have nm : ∀ x ∈ l1 ++ l2, x.i ≠ m.i := fun x hx => by
      rcases List.mem_append.1 hx with h | h
      · exact hi1 x h
      · exact hi2 x h
    have sub : ∀ x ∈ l1 ++ l2, x ∈ l1 ++ m :: l2 := fun x hx => by
      rcases List.mem_append.1 hx with h | h
      · exact List.mem_append_left _ h
      · exact List.mem_append_right _ (List.mem_cons_of_mem _ h)
    have er : ((l1 ++ m :: l2).map (·.i)).erase m.i = (l1 ++ l2).map (·.i) := by
      rw [List.map_append, List.map_cons, List.map_append, List.erase_append_right _ (by
        intro h
        obtain ⟨x, hx, e⟩ := List.mem_map.1 h
        exact hi1 x hx e), List.erase_cons_head]
    refine hmk m hm a w _ hA hb fun v w1 b1 r1 => ?_
    refine ⟨hS _ (hb.trans (b1.mono hb.size)), ?_⟩
    refine ih (l1 ++ l2) _ _ w1 (by simp at hn ⊢; omega) ?_ ?_ (by rw [← er]; exact hrec) (hcl a m v hA hm) (fun a x v hx hxm => hcl a x v hx (sub x hxm)) (hb.trans (b1.mono hb.size)) (fun x hx => hmk x (sub x hx)) (fun x hx => hmo x (sub x hx)) ?_
    · refine hd.sublist ?_
      rw [List.map_append, List.map_append, List.map_cons]
      exact List.Sublist.append_left (List.sublist_cons_self _ _) _
    · refine hi.sublist ?_
      rw [List.map_append, List.map_append, List.map_cons]
      exact List.Sublist.append_left (List.sublist_cons_self _ _) _
    · intro val lo hi' w2 b2 h1 h2
      have q := fin (fun k => if k = m.i then v else val k) (fun k => if k = m.i then w.heap.size else lo k) (fun k => if k = m.i then w1.heap.size else hi' k) w2 (b1.trans (b2.mono b1.size)) ?_ ?_
      · rw [setAll_pick, putAll_pick _ _ _ _ _ hd1, if_pos rfl] at q
        rw [← putAll_congr (val := fun k => if k = m.i then v else val k) (val' := val) (l1 ++ l2) _ (fun x hx => if_neg (nm x hx))]
        exact q
      · intro x hx
        rcases List.mem_append.1 hx with h | h
        · have e := hi1 x h
          simp only [if_neg e]
          obtain ⟨p1, p2, p3, p4⟩ := h1 x (List.mem_append_left _ h)
          exact ⟨Nat.le_trans b1.size p1, p2, p3, p4⟩
        · rcases List.mem_cons.1 h with rfl | h
          · simp only [if_pos]
            exact ⟨Nat.le_refl _, b1.size, b2.size, hmo x hm _ _ _ _ _ r1 b2⟩
          · have e := hi2 x h
            simp only [if_neg e]
            obtain ⟨p1, p2, p3, p4⟩ := h1 x (List.mem_append_right _ h)
            exact ⟨Nat.le_trans b1.size p1, p2, p3, p4⟩
      · have key : ∀ x ∈ l1 ++ l2, w1.heap.size ≤ lo x.i := fun x hx => (h1 x hx).1
        have pos : ∀ x ∈ l1 ++ m :: l2, x.i ≠ m.i → x ∈ l1 ++ l2 := fun x hx e => by
          rcases List.mem_append.1 hx with h | h
          · exact List.mem_append_left _ h
          · rcases List.mem_cons.1 h with rfl | h
            · exact absurd rfl e
            · exact List.mem_append_right _ h
        intro x hx y hy hxy
        by_cases ex : x.i = m.i
        · have ey : y.i ≠ m.i := fun e => hxy (ex.trans e.symm)
          simp only [if_pos ex, if_neg ey]
          exact Or.inl (key y (pos y hy ey))
        · by_cases ey : y.i = m.i
          · simp only [if_neg ex, if_pos ey]
            exact Or.inr (key x (pos x hx ex))
          · simp only [if_neg ex, if_neg ey]
            exact h2 x (pos x hx ex) y (pos y hy ey) hxy
end
end Go.Proofs.YtkickdmomompjaaGreat
namespace Go.Proofs.YtkickdmomompjaaGreat
set_option linter.unusedVariables false
open Go.RowKit
/-- One step of the check sum. -/
def crS (c : BitVec 32) : BitVec 32 := (c >>> 1) ^^^ (if c.getLsbD 0 = true then 3988292384#32 else 0#32)
def crN : Nat → BitVec 32 → BitVec 32
  | 0, c => c
  | n + 1, c => crN n (crS c)
/-- What one byte does. -/
def crB (c : BitVec 32) (x : BitVec 32) : BitVec 32 := crN 8 (c ^^^ x)
theorem crS_xor (a b : BitVec 32) : crS (a ^^^ b) = crS a ^^^ crS b := by
  unfold crS
  apply BitVec.eq_of_getLsbD_eq
  intro i hi
  simp only [BitVec.getLsbD_xor, BitVec.getLsbD_ushiftRight]
  generalize a.getLsbD 0 = p
  generalize b.getLsbD 0 = q
  cases p <;> cases q <;> simp
  all_goals
    cases a.getLsbD (1 + i) <;> cases b.getLsbD (1 + i) <;> simp
theorem crN_xor (n : Nat) (a b : BitVec 32) : crN n (a ^^^ b) = crN n a ^^^ crN n b := by
  induction n generalizing a b with
  | zero => rfl
  | succ n ih => show crN n (crS (a ^^^ b)) = _; rw [crS_xor, ih]; rfl
/-- A step of what has no lowest bits moves it down. -/
theorem crS_low {c : BitVec 32} (h : c.getLsbD 0 = false) : crS c = c >>> 1 := by
  unfold crS
  rw [h]
  simp
theorem crN_low (n : Nat) (c : BitVec 32) (h : ∀ i, i < n → c.getLsbD i = false) : crN n c = c >>> n := by
  induction n generalizing c with
  | zero => show c = _; simp
  | succ n ih =>
    show crN n (crS c) = _
    rw [crS_low (h 0 (by omega)), ih]
    · apply BitVec.eq_of_getLsbD_eq
      intro i hi
      simp only [BitVec.getLsbD_ushiftRight]
      congr 1
      omega
    · intro i hi
      rw [BitVec.getLsbD_ushiftRight]
      exact h _ (by omega)
/-- A byte, by the table of what eight steps do to a byte. -/
theorem crB_tab (c x : BitVec 32) (hx : x < 256#32) : crB c x = (c >>> 8) ^^^ crN 8 ((c ^^^ x) &&& 255#32) := by
  have e : c ^^^ x = ((c ^^^ x) &&& 255#32) ^^^ ((c >>> 8) <<< 8) := by
    apply BitVec.eq_of_getLsbD_eq
    intro i hi
    have hx8 : 8 ≤ i → x.getLsbD i = false := fun h => by
      have hlt : x.toNat < 2 ^ 8 := by simpa [BitVec.lt_def] using hx
      rw [BitVec.getLsbD]
      exact Nat.testBit_lt_two_pow (Nat.lt_of_lt_of_le hlt (Nat.pow_le_pow_right (by decide) h))
    have h255 : (255#32).getLsbD i = decide (i < 8) := by
      rw [BitVec.getLsbD]
      show (255 : Nat).testBit i = _
      rw [show (255 : Nat) = 2 ^ 8 - 1 by decide, Nat.testBit_two_pow_sub_one]
    simp only [BitVec.getLsbD_xor, BitVec.getLsbD_and, BitVec.getLsbD_shiftLeft, BitVec.getLsbD_ushiftRight, h255]
    by_cases h : i < 8
    · simp [h]
    · rw [hx8 (by omega)]
      simp [h, hi, show 8 + (i - 8) = i by omega]
  unfold crB
  rw [e, crN_xor, crN_low 8 ((c >>> 8) <<< 8)]
  · rw [← e]
    rw [BitVec.xor_comm]
    congr 1
    apply BitVec.eq_of_getLsbD_eq
    intro i hi
    simp only [BitVec.getLsbD_ushiftRight, BitVec.getLsbD_shiftLeft]
    by_cases h : 8 + i < 32
    · simp [h]
    · simp [h, BitVec.getLsbD_of_ge c (8 + i) (by omega)]
  · intro i hi
    simp [BitVec.getLsbD_shiftLeft, hi]
/-- The check sum's run over bytes. -/
def crL (c : BitVec 32) : List Nat → BitVec 32
  | [] => c
  | x :: l => crL (crB c (BitVec.ofNat 32 x)) l
def crcF (l : List Nat) : BitVec 32 := crL 4294967295#32 l ^^^ 4294967295#32
theorem crL_snoc (c : BitVec 32) (l : List Nat) (x : Nat) : crL c (l ++ [x]) = crB (crL c l) (BitVec.ofNat 32 x) := by
  induction l generalizing c with
  | nil => rfl
  | cons y l ih => exact ih _
/-- Numbers of 32 bits as the machine has them. -/
def uW (c : BitVec 32) : Int := c.toNat
theorem uW_range (c : BitVec 32) : 0 ≤ uW c ∧ uW c < 4294967296 := by
  have := c.isLt
  unfold uW
  omega
theorem xor_u3 (a b : BitVec 32) : bits .xor .u32 (uW a) (uW b) = uW (a ^^^ b) := by
  have ea : BitVec.ofInt 32 (uW a) = a := by unfold uW; rw [BitVec.ofInt_natCast]; simp
  have eb : BitVec.ofInt 32 (uW b) = b := by unfold uW; rw [BitVec.ofInt_natCast]; simp
  show IntKind.u32.wrap ((BitVec.ofInt 32 (uW a) ^^^ BitVec.ofInt 32 (uW b)).toNat : Int) = _
  rw [ea, eb]
  have := uW_range (a ^^^ b)
  show ((a ^^^ b).toNat : Int) % 4294967296 = uW _
  unfold uW at *
  omega
theorem half_u3 (a : BitVec 32) : (uW a).tdiv 2 % 4294967296 = uW (a >>> 1) := by
  have h := uW_range a
  have e : uW (a >>> 1) = uW a / 2 := by
    unfold uW
    rw [BitVec.toNat_ushiftRight, Nat.shiftRight_eq_div_pow]
    omega
  rw [e, Int.tdiv_eq_ediv_of_nonneg h.1]
  omega
theorem odd_u3 (a : BitVec 32) : (uW a % 2 = 1) ↔ a.getLsbD 0 = true := by
  unfold uW
  rw [BitVec.getLsbD, Nat.testBit_zero]
  simp
  omega
theorem shr_u3 (a : BitVec 32) : uW a / 256 = uW (a >>> 8) := by
  unfold uW
  rw [BitVec.toNat_ushiftRight, Nat.shiftRight_eq_div_pow]
  omega
/-- The index into the table. -/
theorem idx_u3 (c : BitVec 32) (x : Nat) (hx : x < 256) : bits .xor .u8 (uW c % 256) x = uW ((c ^^^ BitVec.ofNat 32 x) &&& 255#32) := by
  have e1 : BitVec.ofInt 8 (uW c % 256) = c.setWidth 8 := by
    apply BitVec.eq_of_toNat_eq
    rw [BitVec.toNat_ofInt, BitVec.toNat_setWidth]
    unfold uW
    have := c.isLt
    omega
  have e2 : BitVec.ofInt 8 (x : Int) = (BitVec.ofNat 32 x).setWidth 8 := by
    apply BitVec.eq_of_toNat_eq
    rw [BitVec.toNat_ofInt, BitVec.toNat_setWidth, BitVec.toNat_ofNat]
    omega
  show IntKind.u8.wrap ((BitVec.ofInt 8 (uW c % 256) ^^^ BitVec.ofInt 8 (x : Int)).toNat : Int) = _
  rw [e1, e2]
  have e3 : (c.setWidth 8 ^^^ (BitVec.ofNat 32 x).setWidth 8).toNat = ((c ^^^ BitVec.ofNat 32 x) &&& 255#32).toNat := by
    rw [← BitVec.setWidth_xor, BitVec.toNat_setWidth, BitVec.toNat_and]
    show _ = (c ^^^ BitVec.ofNat 32 x).toNat &&& 255
    rw [show (255 : Nat) = 2 ^ 8 - 1 by decide, Nat.and_two_pow_sub_one_eq_mod]
  rw [e3]
  have h : ((c ^^^ BitVec.ofNat 32 x) &&& 255#32).toNat < 256 := by rw [← e3]; exact BitVec.isLt _
  show (((c ^^^ BitVec.ofNat 32 x) &&& 255#32).toNat : Int) % 256 = _
  unfold uW
  omega
end Go.Proofs.YtkickdmomompjaaGreat
namespace Go.Proofs.YtkickdmomompjaaGreat
set_option linter.unusedVariables false
open Go.RowKit
/-- A reader in a block: its bytes, its place, its fault. -/
def RdAt (g : Nat) (x : Option Addr) (n c p : Nat) (a y : Int) (V : World) : Prop := V.heap[g]? = some (.cells #[.slice x n c, .int .i64 p, .int .i64 a, .int .i64 y] 96 (0, 0))
theorem RdAt.cs {g : Nat} {x : Option Addr} {n c p : Nat} {a y : Int} {V : World} (h : RdAt g x n c p a y V) : V.cell? ⟨g, 0, none⟩ = some (.slice x n c) ∧ V.cell? ⟨g, 1, none⟩ = some (.int .i64 p) ∧ V.cell? ⟨g, 2, none⟩ = some (.int .i64 a) ∧ V.cell? ⟨g, 3, none⟩ = some (.int .i64 y) := by
  unfold RdAt at h
  exact ⟨by simp [World.cell?, h], by simp [World.cell?, h], by simp [World.cell?, h], by simp [World.cell?, h]⟩
theorem RdAt.froz {g : Nat} {x : Option Addr} {n c p : Nat} {a y : Int} {V : World} (h : RdAt g x n c p a y V) (j : Nat) : V.frozen? ⟨g, j, none⟩ = false := by
  unfold RdAt at h
  simp [World.frozen?, h]
theorem gb_refl (w : World) (r : Option Nat) : w.grownBy w r := ⟨rfl, rfl, rfl, Nat.le_refl _, fun _ _ _ => rfl⟩
theorem gb_trans {a b c : World} {r : Option Nat} (h : a.grownBy b r) (k : b.grownBy c r) : a.grownBy c r := ⟨k.os.trans h.os, k.tape.trans h.tape, k.output.trans h.output, Nat.le_trans h.size k.size, fun i hi hr => (k.block i (Nat.lt_of_lt_of_le hi h.size) hr).trans (h.block i hi hr)⟩
theorem gb_set (w : World) (g j : Nat) (v : Value) : w.grownBy (w.setCell ⟨g, j, none⟩ v) (some g) := ⟨rfl, rfl, rfl, by simp [World.setCell], fun k _ hk => Below.heap_setCell _ _ _ _ (fun e => hk (by simp [e]))⟩
theorem RdAt.set1 {g : Nat} {x : Option Addr} {n c p : Nat} {a y : Int} {V : World} (h : RdAt g x n c p a y V) (q : Nat) : RdAt g x n c q a y (V.setCell ⟨g, 1, none⟩ (.int .i64 q)) := by
  unfold RdAt at *
  simp [World.setCell, Array.getElem?_modify, h]
theorem RdAt.set23 {g : Nat} {x : Option Addr} {n c p : Nat} {a y : Int} {V : World} (h : RdAt g x n c p a y V) (a' y' : Int) : RdAt g x n c p a' y' ((V.setCell ⟨g, 2, none⟩ (.int .i64 a')).setCell ⟨g, 3, none⟩ (.int .i64 y')) := by
  unfold RdAt at *
  simp [World.setCell, Array.getElem?_modify, h]
theorem RdAt.drewN {g : Nat} {x : Option Addr} {n c p : Nat} {a y : Int} {V : World} (h : RdAt g x n c p a y V) (k : Nat) : RdAt g x n c p a y (V.drewN k) := h
theorem gb_drewN {a b : World} {r : Option Nat} (h : a.grownBy b r) (k : Nat) : a.grownBy (b.drewN k) r := ⟨h.os, h.tape, h.output, h.size, h.block⟩
set_option maxRecDepth 20000 in
set_option maxHeartbeats 4000000 in
theorem failedX (g : Nat) (x : Option Addr) (n c p : Nat) (a y : Int) (w : World) (h : RdAt g x n c p a y w) :
    Calls Tryz.prog 76 #[.pointer (some ⟨g, 0, none⟩)] w fun e w' => e = .returned (.bool (y != 0)) ∧ w' = w := by
  obtain ⟨c0, c1, c2, c3⟩ := h.cs
  clear h
  go_enter Tryz.func76, Tryz.ntmps76
  go_wp2
  go_ret
  first | exact ⟨rfl, rfl⟩ | simp
set_option maxRecDepth 20000 in
set_option maxHeartbeats 4000000 in
theorem failX (g : Nat) (x : Option Addr) (n c p : Nat) (a y a' y' : Int) (w : World) (h : RdAt g x n c p a y w) :
    Calls Tryz.prog 42 #[.pointer (some ⟨g, 0, none⟩), .int .i64 a', .int .i64 y'] w fun e w' => e = .returned (.tuple #[]) ∧ RdAt g x n c p (if y = 0 then a' else a) (if y = 0 then y' else y) w' ∧ w.grownBy w' (some g) := by
  have H : Hid (RdAt g x n c p a y w) := h
  clear h
  obtain ⟨c0, c1, c2, c3⟩ := H.out.cs
  have z2 := H.out.froz 2
  have z3 := H.out.froz 3
  by_cases hy : y = 0
  · rw [if_pos hy, if_pos hy]
    have ny : (y != 0) = false := by simp [hy]
    have H1 : Hid (RdAt g x n c p a' y' ((w.setCell ⟨g, 2, none⟩ (.int .i64 a')).setCell ⟨g, 3, none⟩ (.int .i64 y'))) := H.out.set23 a' y'
    have G1 : Hid (w.grownBy ((w.setCell ⟨g, 2, none⟩ (.int .i64 a')).setCell ⟨g, 3, none⟩ (.int .i64 y')) (some g)) := gb_trans (gb_set _ _ _ _) (gb_set _ _ _ _)
    clear hy
    go_enter Tryz.func42, Tryz.ntmps42
    go_wp2_with (go_at_call 76; refine (failedX g x n c p a y _ H.out).mono ?_)
    first | (rintro e w1 ⟨he, hw⟩; have he' := he) | (rintro e w1 he hw)
    subst he
    rw [hw]
    clear hw w1
    go_wp2
    go_end0
    exact ⟨rfl, H1.out, G1.out⟩
  · rw [if_neg hy, if_neg hy]
    have ny : (y != 0) = true := by simp [hy]
    clear hy
    go_enter Tryz.func42, Tryz.ntmps42
    go_wp2_with (go_at_call 76; refine (failedX g x n c p a y _ H.out).mono ?_)
    first | (rintro e w1 ⟨he, hw⟩; have he' := he) | (rintro e w1 he hw)
    subst he
    rw [hw]
    clear hw w1
    go_wp2
    go_end0
    exact ⟨rfl, H.out, gb_refl _ _⟩
end Go.Proofs.YtkickdmomompjaaGreat
namespace Go.Proofs.YtkickdmomompjaaGreat
set_option linter.unusedVariables false
open Go.RowKit
section
variable {P : Program} {ops : Array Oper} {Q : Exit → Act → World → Prop} {md : Region.Mode} {S : World → Prop} {j : Nat}
/-- Whatever order is picked from here on, and S holds behind every operation as long as number j has not come up. -/
def wpAnyJ (P : Program) (md : Region.Mode) (ops : Array Oper) (Q : Exit → Act → World → Prop) (S : World → Prop) (j : Nat) : Nat → Array Bool → Act → World → Prop
  | 0, listed, a, w => Region.ready md ops listed = [] ∧ Q .normal a w
  | fuel + 1, listed, a, w =>
    (Region.ready md ops listed = [] → Q .normal a w) ∧
    ∀ i ∈ Region.ready md ops listed, wpOp P ops Q i (fun a' w' => ((listed.setIfInBounds i true).getD j true = false → S w') ∧ wpAnyJ P md ops Q S j fuel (listed.setIfInBounds i true) a' w') a w
theorem wpAny_of_J : ∀ (fuel : Nat) (listed : Array Bool) (a : Act) (w : World), wpAnyJ P md ops Q S j fuel listed a w → wpAny P md ops Q fuel listed a w
  | 0, _, _, _, h => h
  | fuel + 1, _, _, _, h => ⟨h.1, fun i hi => wpOp_mono (fun a' w' h' => wpAny_of_J fuel _ a' w' h'.2) (h.2 i hi)⟩
theorem wpAnyJ_first {i : Nat} {oi : Oper} {v : Value} (hi : ops[i]? = some oi) (hsel : ∀ (j : Nat) (o : Oper) cs b, ops[j]? = some o → o.op ≠ .select cs b)
    (hQ : ∀ c a w, Q (.panic c) (a.put oi.dst v) w → Q (.panic c) a w) (hij : j ≠ i) (hj : ∀ oj, ops[j]? = some oj → ∃ e ∈ oj.after, Region.binds md e = true ∧ e.on = i) :
    ∀ (fuel : Nat) (listed : Array Bool) (a : Act) (w : World),
      (∀ k ok, ops[k]? = some ok → k ≠ i → listed.getD k true = false → (∀ e ∈ ok.after, Region.binds md e = true → e.on ≠ i) → oi.apart ops ok = true) →
      i ∈ Region.ready md ops listed → YieldsIf P ops S oi v a → listed.getD j true = false → S w →
      wpAnyJ P md ops Q S j fuel (listed.setIfInBounds i true) (a.put oi.dst v) w → wpAnyJ P md ops Q S j (fuel + 1) listed a w := by
  intro fuel
  induction fuel with
  | zero =>
    intro listed a w _ hr hy hu hS H
    refine ⟨fun h => (by rw [h] at hr; cases hr), fun k hk => ?_⟩
    by_cases hki : k = i
    · subst hki; exact hy.wpOp hi hS ⟨fun _ => hS, H⟩
    · have := ready_mono hk hki
      rw [H.1] at this
      cases this
  | succ fuel ih =>
    intro listed a w hfree hr hy hu hS H
    refine ⟨fun h => (by rw [h] at hr; cases hr), fun k hk => ?_⟩
    by_cases hki : k = i
    · subst hki; exact hy.wpOp hi hS ⟨fun _ => hS, H⟩
    · have h1 := H.2 k (ready_mono hk hki)
      obtain ⟨hjun, ok, hok, hall⟩ := mem_ready.1 hk
      have notI : ∀ e ∈ ok.after, Region.binds md e = true → e.on ≠ i := fun e he hb heq => by
        have h1 := hall e he hb
        have h0 := (mem_ready.1 hr).1
        rw [heq] at h1
        rcases Nat.lt_or_ge i listed.size with h' | h'
        · simp [h'] at h0 h1; rw [h0] at h1; cases h1
        · simp [Array.getElem?_eq_none h'] at h1
      have hkj : k ≠ j := fun e => by
        subst e
        obtain ⟨e, he, hb, ho⟩ := hj ok hok
        exact notI e he hb ho
      have h2 := wpOp_putIf hok (hfree k ok hok hki hjun notI) (fun cs b => hsel i oi cs b hi) (fun cs b => hsel k ok cs b hok) hQ hy h1
      have hu' : (listed.setIfInBounds k true).getD j true = false := by rw [getD_set_ne true hkj]; exact hu
      have hfree' : ∀ k' ok', ops[k']? = some ok' → k' ≠ i → (listed.setIfInBounds k true).getD k' true = false →
          (∀ e ∈ ok'.after, Region.binds md e = true → e.on ≠ i) → oi.apart ops ok' = true := fun k' ok' hk' hki' hun hno => by
        refine hfree k' ok' hk' hki' ?_ hno
        by_cases hjk : k = k'
        · subst hjk; exact hjun
        · rw [getD_set_ne true hjk] at hun; exact hun
      refine wpOp_mono (fun a' w' h3 => ?_) h2
      have hS' : S w' := h3.2.1 (by rw [getD_set_ne true hkj, getD_set_ne true (Ne.symm hij)]; exact hu)
      refine ⟨fun _ => hS', ih (listed.setIfInBounds k true) a' w' hfree' (ready_mono hr (Ne.symm hki)) h3.1 hu' hS' ?_⟩
      rw [Array.setIfInBounds_comm _ _ hki]
      exact h3.2.2
/-- Does number j wait for number i? -/
def waitsB (md : Region.Mode) (ops : Array Oper) (j i : Nat) : Bool := match ops[j]? with
  | some oj => oj.after.any fun e => Region.binds md e && e.on == i
  | none => true
theorem waitsB_spec {i : Nat} (h : waitsB md ops j i = true) : ∀ oj, ops[j]? = some oj → ∃ e ∈ oj.after, Region.binds md e = true ∧ e.on = i := by
  intro oj ho
  unfold waitsB at h
  rw [ho] at h
  simp only [Array.any_eq_true', Bool.and_eq_true, beq_iff_eq] at h
  obtain ⟨e, he, hb, hn⟩ := h
  exact ⟨e, he, hb, hn⟩
theorem wpAnyJ_take {i : Nat} {oi : Oper} {v : Value} {fuel : Nat} {listed : Array Bool} {a : Act} {w : World} (hi : ops[i]? = some oi)
    (hs : Region.noSelect ops = true) (hf : Region.free md ops listed i = true) (hr : (Region.ready md ops listed).contains i = true)
    (hij : (j != i && waitsB md ops j i && !(listed.getD j true)) = true)
    (hQ : ∀ c a w, Q (.panic c) (a.put oi.dst v) w → Q (.panic c) a w) (hy : YieldsIf P ops S oi v a) (hS : S w)
    (h : wpAnyJ P md ops Q S j fuel (listed.setIfInBounds i true) (a.put oi.dst v) w) : wpAnyJ P md ops Q S j (fuel + 1) listed a w := by
  simp only [Bool.and_eq_true, bne_iff_ne, ne_eq, Bool.not_eq_true'] at hij
  exact wpAnyJ_first hi (Region.noSelect_spec hs) hQ hij.1.1 (waitsB_spec hij.1.2) fuel listed a w (Region.free_spec hi hf) (by simpa using hr) hy hij.2 hS h
/-- Just one may come up. -/
theorem wpAnyJ_one {i : Nat} {o : Oper} {fuel : Nat} {listed : Array Bool} {a : Act} {w : World} (hr : Region.ready md ops listed = [i]) (ho : ops[i]? = some o)
    (h : ∀ K' : Act → World → Prop, Shut (∀ a w, ((listed.setIfInBounds i true).getD j true = false → S w) → wpAnyJ P md ops Q S j fuel (listed.setIfInBounds i true) a w → K' a w) → if Region.wanted o (yielded ops a.tmps) = true then Oper.wp P o a w K' Q else K' (a.put o.dst undef) w) :
    wpAnyJ P md ops Q S j (fuel + 1) listed a w :=
  ⟨fun h0 => absurd (hr ▸ h0) (by simp), fun k hk => by
    rw [hr] at hk
    obtain rfl := List.mem_singleton.1 hk
    exact wpOp_step ho (fun K' hK => h K' (fun a w hS hW => hK a w ⟨hS, hW⟩))⟩
theorem wpAnyJ_done {listed : Array Bool} {a : Act} {w : World} (hr : Region.ready md ops listed = []) (h : Q .normal a w) : ∀ fuel, wpAnyJ P md ops Q S j fuel listed a w
  | 0 => ⟨hr, h⟩
  | _ + 1 => ⟨fun _ => h, by rw [hr]; simp⟩
theorem wp_region_J (j : Nat) (S : World → Prop) {id : Nat} {a : Act} {w : World} (hm : P.follows .mixedOrders = true) (hS : S w.drew)
    (h : S w.drew → wpAnyJ P .any ops Q S j ops.size (Array.replicate ops.size false) a w.drew) : (Code.region id ops true).wp P Q a w :=
  wp_region_any hm (wpAny_of_J _ _ _ _ (h hS))
end
end Go.Proofs.YtkickdmomompjaaGreat
