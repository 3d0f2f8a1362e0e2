/- Trees of statements in memory; no statement of the seat is proved here. -/
import Derived.Test.YtcoeinfopfcekaaTrO
import Derived.Test.YtcoeinfopfcekaaTrM
namespace Go.Proofs.Ytcoeinfopfcekaa
set_option linter.unusedVariables false
open Go.RowKit
/-- What a statement has besides its parts. -/
structure SH where
  op : Int
  pl : Int
  nm : ByteArray
  nu : Int
  kd : Int
  ar : Int
  rf : Int
/-- A statement: its head, its expressions and their names, its outputs and their names, its ranges, its body, what is done else. -/
inductive St where
  | mk (h : SH) (es : List Ex) (ns : List ByteArray) (os : List Ex) (on : List ByteArray) (rs : List (Int × Int)) (b e : List St)
/-- A statement as a value. -/
abbrev SV (h : SH) (a1 a2 a3 a4 a5 a6 a7 : Value) : Value := .agg #[.int .i64 h.op, .int .i64 h.pl, .string h.nm, .int .i64 h.nu, a1, a2, a3, a4, a5, a6, a7, .int .u8 h.kd, .int .i64 h.ar, .int .i64 h.rf]
/-- Its cells. -/
structure ScAt (w : World) (p : Addr) (h : SH) (a1 a2 a3 a4 a5 a6 a7 : Value) : Prop where
  c0 : w.cell? p = some (.int .i64 h.op)
  c1 : w.cell? ⟨p.block, p.off + 1, none⟩ = some (.int .i64 h.pl)
  c2 : w.cell? ⟨p.block, p.off + 2, none⟩ = some (.string h.nm)
  c3 : w.cell? ⟨p.block, p.off + 3, none⟩ = some (.int .i64 h.nu)
  c4 : w.cell? ⟨p.block, p.off + 4, none⟩ = some (a1)
  c5 : w.cell? ⟨p.block, p.off + 5, none⟩ = some (a2)
  c6 : w.cell? ⟨p.block, p.off + 6, none⟩ = some (a3)
  c7 : w.cell? ⟨p.block, p.off + 7, none⟩ = some (a4)
  c8 : w.cell? ⟨p.block, p.off + 8, none⟩ = some (a5)
  c9 : w.cell? ⟨p.block, p.off + 9, none⟩ = some (a6)
  c10 : w.cell? ⟨p.block, p.off + 10, none⟩ = some (a7)
  c11 : w.cell? ⟨p.block, p.off + 11, none⟩ = some (.int .u8 h.kd)
  c12 : w.cell? ⟨p.block, p.off + 12, none⟩ = some (.int .i64 h.ar)
  c13 : w.cell? ⟨p.block, p.off + 13, none⟩ = some (.int .i64 h.rf)
theorem ScAt.fr {S : Nat → Prop} {w w' : World} {p : Addr} {h : SH} {a1 a2 a3 a4 a5 a6 a7 : Value} (a : ScAt w p h a1 a2 a3 a4 a5 a6 a7) (f : FrS S w w') (hp : S p.block) : ScAt w' p h a1 a2 a3 a4 a5 a6 a7 :=
  ⟨(f _ hp).trans a.c0, (f ⟨p.block, p.off + 1, none⟩ hp).trans a.c1, (f ⟨p.block, p.off + 2, none⟩ hp).trans a.c2, (f ⟨p.block, p.off + 3, none⟩ hp).trans a.c3, (f ⟨p.block, p.off + 4, none⟩ hp).trans a.c4, (f ⟨p.block, p.off + 5, none⟩ hp).trans a.c5, (f ⟨p.block, p.off + 6, none⟩ hp).trans a.c6, (f ⟨p.block, p.off + 7, none⟩ hp).trans a.c7, (f ⟨p.block, p.off + 8, none⟩ hp).trans a.c8, (f ⟨p.block, p.off + 9, none⟩ hp).trans a.c9, (f ⟨p.block, p.off + 10, none⟩ hp).trans a.c10, (f ⟨p.block, p.off + 11, none⟩ hp).trans a.c11, (f ⟨p.block, p.off + 12, none⟩ hp).trans a.c12, (f ⟨p.block, p.off + 13, none⟩ hp).trans a.c13⟩
/-- A statement at an address, all its cells in S; so deep at most. -/
def StF (S : Nat → Prop) : Nat → World → Addr → St → Prop
  | 0, _, _, _ => False
  | d + 1, w, p, .mk h es ns os on rs b e => S p.block ∧ ∃ x1 c1 x2 c2 x3 c3 x4 c4 x5 c5 x6 c6 x7 c7, ScAt w p h (.slice x1 es.length c1) (.slice x2 ns.length c2) (.slice x3 os.length c3) (.slice x4 on.length c4) (.slice x5 rs.length c5) (.slice x6 b.length c6) (.slice x7 e.length c7) ∧ KdF S d w x1 es ∧ NmF S w x2 ns ∧ few ns.length ∧ KdF S d w x3 os ∧ NmF S w x4 on ∧ few on.length ∧ RgF S w x5 rs ∧ few rs.length ∧ few b.length ∧ (x6 = none → b = []) ∧ (∀ q, x6 = some q → ∀ i s, b[i]? = some s → StF S d w (q.add (i * 14)) s) ∧ few e.length ∧ (x7 = none → e = []) ∧ ∀ q, x7 = some q → ∀ i s, e[i]? = some s → StF S d w (q.add (i * 14)) s
/-- Statements in a row. -/
def StL (S : Nat → Prop) (d : Nat) (w : World) (x : Option Addr) (l : List St) : Prop := few l.length ∧ (x = none → l = []) ∧ ∀ q, x = some q → ∀ i s, l[i]? = some s → StF S d w (q.add (i * 14)) s
/-- A statement's value, as it is handed on. -/
def SvF (S : Nat → Prop) (d : Nat) (w : World) (v : Value) : St → Prop
  | .mk h es ns os on rs b e => ∃ x1 c1 x2 c2 x3 c3 x4 c4 x5 c5 x6 c6 x7 c7, v = SV h (.slice x1 es.length c1) (.slice x2 ns.length c2) (.slice x3 os.length c3) (.slice x4 on.length c4) (.slice x5 rs.length c5) (.slice x6 b.length c6) (.slice x7 e.length c7) ∧ KdF S d w x1 es ∧ NmF S w x2 ns ∧ few ns.length ∧ KdF S d w x3 os ∧ NmF S w x4 on ∧ few on.length ∧ RgF S w x5 rs ∧ few rs.length ∧ StL S d w x6 b ∧ StL S d w x7 e
theorem NmF.sub {S T : Nat → Prop} (hST : ∀ b, S b → T b) {w : World} {y : Option Addr} {l : List ByteArray} (h : NmF S w y l) : NmF T w y l := ⟨h.1, fun a e j u hu => hST _ (h.2 a e j u hu)⟩
theorem StF.fr {S : Nat → Prop} : ∀ (d : Nat) {w w' : World} {p : Addr} {s : St}, StF S d w p s → FrS S w w' → StF S d w' p s
  | 0, _, _, _, _, h, _ => h.elim
  | d + 1, w, w', p, .mk h es ns os on rs b e, ⟨hp, x1, c1, x2, c2, x3, c3, x4, c4, x5, c5, x6, c6, x7, c7, hc, k1, n1, f1, k2, n2, f2, r1, f3, f4, b1, b2, f5, e1, e2⟩, f => ⟨hp, x1, c1, x2, c2, x3, c3, x4, c4, x5, c5, x6, c6, x7, c7, hc.fr f hp, k1.fr f, n1.fr f, f1, k2.fr f, n2.fr f, f2, r1.fr f, f3, f4, b1, fun q z i s hs => StF.fr d (b2 q z i s hs) f, f5, e1, fun q z i s hs => StF.fr d (e2 q z i s hs) f⟩
theorem StF.sub {S T : Nat → Prop} (hST : ∀ b, S b → T b) : ∀ (d : Nat) {w : World} {p : Addr} {s : St}, StF S d w p s → StF T d w p s
  | 0, _, _, _, h => h.elim
  | d + 1, w, p, .mk h es ns os on rs b e, ⟨hp, x1, c1, x2, c2, x3, c3, x4, c4, x5, c5, x6, c6, x7, c7, hc, k1, n1, f1, k2, n2, f2, r1, f3, f4, b1, b2, f5, e1, e2⟩ => ⟨hST _ hp, x1, c1, x2, c2, x3, c3, x4, c4, x5, c5, x6, c6, x7, c7, hc, k1.sub hST, n1.sub hST, f1, k2.sub hST, n2.sub hST, f2, r1.sub hST, f3, f4, b1, fun q z i s hs => StF.sub hST d (b2 q z i s hs), f5, e1, fun q z i s hs => StF.sub hST d (e2 q z i s hs)⟩
theorem StL.fr {S : Nat → Prop} {d : Nat} {w w' : World} {x : Option Addr} {l : List St} (h : StL S d w x l) (f : FrS S w w') : StL S d w' x l := ⟨h.1, h.2.1, fun q z i s hs => StF.fr d (h.2.2 q z i s hs) f⟩
theorem StL.sub {S T : Nat → Prop} (hST : ∀ b, S b → T b) {d : Nat} {w : World} {x : Option Addr} {l : List St} (h : StL S d w x l) : StL T d w x l := ⟨h.1, h.2.1, fun q z i s hs => StF.sub hST d (h.2.2 q z i s hs)⟩
theorem SvF.fr {S : Nat → Prop} {d : Nat} {w w' : World} {v : Value} {s : St} (h : SvF S d w v s) (f : FrS S w w') : SvF S d w' v s := by
  cases s with
  | mk hd es ns os on rs b e =>
    obtain ⟨x1, c1, x2, c2, x3, c3, x4, c4, x5, c5, x6, c6, x7, c7, hv, k1, n1, f1, k2, n2, f2, r1, f3, l1, l2⟩ := h
    exact ⟨x1, c1, x2, c2, x3, c3, x4, c4, x5, c5, x6, c6, x7, c7, hv, k1.fr f, n1.fr f, f1, k2.fr f, n2.fr f, f2, r1.fr f, f3, l1.fr f, l2.fr f⟩
theorem SvF.sub {S T : Nat → Prop} (hST : ∀ b, S b → T b) {d : Nat} {w : World} {v : Value} {s : St} (h : SvF S d w v s) : SvF T d w v s := by
  cases s with
  | mk hd es ns os on rs b e =>
    obtain ⟨x1, c1, x2, c2, x3, c3, x4, c4, x5, c5, x6, c6, x7, c7, hv, k1, n1, f1, k2, n2, f2, r1, f3, l1, l2⟩ := h
    exact ⟨x1, c1, x2, c2, x3, c3, x4, c4, x5, c5, x6, c6, x7, c7, hv, k1.sub hST, n1.sub hST, f1, k2.sub hST, n2.sub hST, f2, r1.sub hST, f3, l1.sub hST, l2.sub hST⟩
/-- What an element of a row reads as. -/
theorem StL.el {S : Nat → Prop} {d : Nat} {w : World} {q : Addr} {l : List St} (h : StL S (d + 1) w (some q) l) (i : Nat) (hi : i < l.length) : ∃ h es ns os on rs b e x1 c1 x2 c2 x3 c3 x4 c4 x5 c5 x6 c6 x7 c7, l[i]? = some (.mk h es ns os on rs b e) ∧ S q.block ∧ ScAt w (q.add (i * 14)) h (.slice x1 es.length c1) (.slice x2 ns.length c2) (.slice x3 os.length c3) (.slice x4 on.length c4) (.slice x5 rs.length c5) (.slice x6 b.length c6) (.slice x7 e.length c7) ∧ SvF S d w (SV h (.slice x1 es.length c1) (.slice x2 ns.length c2) (.slice x3 os.length c3) (.slice x4 on.length c4) (.slice x5 rs.length c5) (.slice x6 b.length c6) (.slice x7 e.length c7)) (.mk h es ns os on rs b e) := by
  have a := h.2.2 q rfl i l[i] (List.getElem?_eq_getElem hi)
  cases z : l[i] with
  | mk h es ns os on rs b e =>
    rw [z] at a
    obtain ⟨hp, x1, c1, x2, c2, x3, c3, x4, c4, x5, c5, x6, c6, x7, c7, hc, k1, n1, f1, k2, n2, f2, r1, f3, f4, b1, b2, f5, e1, e2⟩ := a
    rw [add_block] at hp
    exact ⟨h, es, ns, os, on, rs, b, e, x1, c1, x2, c2, x3, c3, x4, c4, x5, c5, x6, c6, x7, c7, by rw [List.getElem?_eq_getElem hi, z], hp, hc, x1, c1, x2, c2, x3, c3, x4, c4, x5, c5, x6, c6, x7, c7, rfl, k1, n1, f1, k2, n2, f2, r1, f3, ⟨f4, b1, b2⟩, f5, e1, e2⟩
theorem StL.none0 {S : Nat → Prop} {w : World} {x : Option Addr} {l : List St} (h : StL S 0 w x l) : l = [] := by
  cases x with
  | none => exact h.2.1 rfl
  | some b =>
    cases l with
    | nil => rfl
    | cons e l => exact (h.2.2 b rfl 0 e rfl).elim
/-- The blocks that are there already. -/
theorem old_fr {n : Nat} {w w' : World} (hb : Below n w w') : FrS (fun b => b < n) w w' := fun q hq => hb.cell hq
end Go.Proofs.Ytcoeinfopfcekaa
