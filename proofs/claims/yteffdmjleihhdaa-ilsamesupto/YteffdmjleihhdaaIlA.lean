/- Instructions of a list in memory; no statement of the seat is proved here. -/
import Derived.Test.YteffdmjleihhdaaTrU0
namespace Go.Proofs.Yteffdmjleihhdaa
set_option linter.unusedVariables false
open Go.RowKit
/-- What an instruction has besides its parts. -/
structure IH where
  pl : Int
  lb : ByteArray
  op : ByteArray
  nt : Bool
  cd : Bool
  ob : Bool
  nm : ByteArray
/-- An instruction: its head, its arguments and their names, its outputs and their names. -/
structure Il where
  h : IH
  ag : List Ex
  ns : List ByteArray
  os : List Ex
  on : List ByteArray
/-- An instruction as a value. -/
abbrev IV (h : IH) (a1 a2 a3 a4 : Value) : Value := .agg #[.int .i64 h.pl, .string h.lb, .string h.op, .bool h.nt, .bool h.cd, .bool h.ob, .string h.nm, a1, a2, a3, a4]
/-- Its cells. -/
structure IcAt (w : World) (p : Addr) (h : IH) (a1 a2 a3 a4 : Value) : Prop where
  c0 : w.cell? p = some (.int .i64 h.pl)
  c1 : w.cell? ⟨p.block, p.off + 1, none⟩ = some (.string h.lb)
  c2 : w.cell? ⟨p.block, p.off + 2, none⟩ = some (.string h.op)
  c3 : w.cell? ⟨p.block, p.off + 3, none⟩ = some (.bool h.nt)
  c4 : w.cell? ⟨p.block, p.off + 4, none⟩ = some (.bool h.cd)
  c5 : w.cell? ⟨p.block, p.off + 5, none⟩ = some (.bool h.ob)
  c6 : w.cell? ⟨p.block, p.off + 6, none⟩ = some (.string h.nm)
  c7 : w.cell? ⟨p.block, p.off + 7, none⟩ = some (a1)
  c8 : w.cell? ⟨p.block, p.off + 8, none⟩ = some (a2)
  c9 : w.cell? ⟨p.block, p.off + 9, none⟩ = some (a3)
  c10 : w.cell? ⟨p.block, p.off + 10, none⟩ = some (a4)
theorem IcAt.fr {S : Nat → Prop} {w w' : World} {p : Addr} {h : IH} {a1 a2 a3 a4 : Value} (a : IcAt w p h a1 a2 a3 a4) (f : FrS S w w') (hp : S p.block) : IcAt w' p h a1 a2 a3 a4 :=
  ⟨(f _ hp).trans a.c0, (f ⟨p.block, p.off + 1, none⟩ hp).trans a.c1, (f ⟨p.block, p.off + 2, none⟩ hp).trans a.c2, (f ⟨p.block, p.off + 3, none⟩ hp).trans a.c3, (f ⟨p.block, p.off + 4, none⟩ hp).trans a.c4, (f ⟨p.block, p.off + 5, none⟩ hp).trans a.c5, (f ⟨p.block, p.off + 6, none⟩ hp).trans a.c6, (f ⟨p.block, p.off + 7, none⟩ hp).trans a.c7, (f ⟨p.block, p.off + 8, none⟩ hp).trans a.c8, (f ⟨p.block, p.off + 9, none⟩ hp).trans a.c9, (f ⟨p.block, p.off + 10, none⟩ hp).trans a.c10⟩
/-- The parts of an instruction lie in S. -/
def IlP (S : Nat → Prop) (d : Nat) (w : World) (x1 x2 x3 x4 : Option Addr) (t : Il) : Prop := KdF S d w x1 t.ag ∧ (NmF S w x2 t.ns ∧ few t.ns.length) ∧ KdF S d w x3 t.os ∧ (NmF S w x4 t.on ∧ few t.on.length)
/-- An instruction at an address, all its cells in S. -/
def IlF (S : Nat → Prop) (d : Nat) (w : World) (p : Addr) (t : Il) : Prop := S p.block ∧ ∃ x1 c1 x2 c2 x3 c3 x4 c4, IcAt w p t.h (.slice x1 t.ag.length c1) (.slice x2 t.ns.length c2) (.slice x3 t.os.length c3) (.slice x4 t.on.length c4) ∧ IlP S d w x1 x2 x3 x4 t
/-- Instructions in a row. -/
def IlL (S : Nat → Prop) (d : Nat) (w : World) (x : Option Addr) (l : List Il) : Prop := few l.length ∧ (x = none → l = []) ∧ ∀ q, x = some q → ∀ i t, l[i]? = some t → IlF S d w (q.add (i * 11)) t
/-- An instruction's value, as it is handed on. -/
def IvF (S : Nat → Prop) (d : Nat) (w : World) (v : Value) (t : Il) : Prop := ∃ x1 c1 x2 c2 x3 c3 x4 c4, v = IV t.h (.slice x1 t.ag.length c1) (.slice x2 t.ns.length c2) (.slice x3 t.os.length c3) (.slice x4 t.on.length c4) ∧ IlP S d w x1 x2 x3 x4 t
theorem IlP.fr {S : Nat → Prop} {d : Nat} {w w' : World} {x1 x2 x3 x4 : Option Addr} {t : Il} (h : IlP S d w x1 x2 x3 x4 t) (f : FrS S w w') : IlP S d w' x1 x2 x3 x4 t := ⟨h.1.fr f, ⟨h.2.1.1.fr f, h.2.1.2⟩, h.2.2.1.fr f, ⟨h.2.2.2.1.fr f, h.2.2.2.2⟩⟩
theorem IlP.sub {S T : Nat → Prop} (hST : ∀ b, S b → T b) {d : Nat} {w : World} {x1 x2 x3 x4 : Option Addr} {t : Il} (h : IlP S d w x1 x2 x3 x4 t) : IlP T d w x1 x2 x3 x4 t := ⟨h.1.sub hST, ⟨h.2.1.1.sub hST, h.2.1.2⟩, h.2.2.1.sub hST, ⟨h.2.2.2.1.sub hST, h.2.2.2.2⟩⟩
theorem IlF.fr {S : Nat → Prop} {d : Nat} {w w' : World} {p : Addr} {t : Il} (h : IlF S d w p t) (f : FrS S w w') : IlF S d w' p t := by
  obtain ⟨hp, x1, c1, x2, c2, x3, c3, x4, c4, hc, hq⟩ := h
  exact ⟨hp, x1, c1, x2, c2, x3, c3, x4, c4, hc.fr f hp, hq.fr f⟩
theorem IlF.sub {S T : Nat → Prop} (hST : ∀ b, S b → T b) {d : Nat} {w : World} {p : Addr} {t : Il} (h : IlF S d w p t) : IlF T d w p t := by
  obtain ⟨hp, x1, c1, x2, c2, x3, c3, x4, c4, hc, hq⟩ := h
  exact ⟨hST _ hp, x1, c1, x2, c2, x3, c3, x4, c4, hc, hq.sub hST⟩
theorem IlL.fr {S : Nat → Prop} {d : Nat} {w w' : World} {x : Option Addr} {l : List Il} (h : IlL S d w x l) (f : FrS S w w') : IlL S d w' x l := ⟨h.1, h.2.1, fun q z i s hs => (h.2.2 q z i s hs).fr f⟩
theorem IlL.sub {S T : Nat → Prop} (hST : ∀ b, S b → T b) {d : Nat} {w : World} {x : Option Addr} {l : List Il} (h : IlL S d w x l) : IlL T d w x l := ⟨h.1, h.2.1, fun q z i s hs => (h.2.2 q z i s hs).sub hST⟩
theorem IvF.fr {S : Nat → Prop} {d : Nat} {w w' : World} {v : Value} {t : Il} (h : IvF S d w v t) (f : FrS S w w') : IvF S d w' v t := by
  obtain ⟨x1, c1, x2, c2, x3, c3, x4, c4, hv, hq⟩ := h
  exact ⟨x1, c1, x2, c2, x3, c3, x4, c4, hv, hq.fr f⟩
theorem IvF.sub {S T : Nat → Prop} (hST : ∀ b, S b → T b) {d : Nat} {w : World} {v : Value} {t : Il} (h : IvF S d w v t) : IvF T d w v t := by
  obtain ⟨x1, c1, x2, c2, x3, c3, x4, c4, hv, hq⟩ := h
  exact ⟨x1, c1, x2, c2, x3, c3, x4, c4, hv, hq.sub hST⟩
/-- What an element of a row reads as. -/
theorem IlL.el {S : Nat → Prop} {d : Nat} {w : World} {q : Addr} {l : List Il} (h : IlL S d w (some q) l) (i : Nat) (hi : i < l.length) : ∃ t x1 c1 x2 c2 x3 c3 x4 c4, l[i]? = some t ∧ S q.block ∧ IcAt w (q.add (i * 11)) t.h (.slice x1 t.ag.length c1) (.slice x2 t.ns.length c2) (.slice x3 t.os.length c3) (.slice x4 t.on.length c4) ∧ IlP S d w x1 x2 x3 x4 t := by
  obtain ⟨hp, x1, c1, x2, c2, x3, c3, x4, c4, hc, hq⟩ := h.2.2 q rfl i l[i] (List.getElem?_eq_getElem hi)
  rw [add_block] at hp
  exact ⟨l[i], x1, c1, x2, c2, x3, c3, x4, c4, List.getElem?_eq_getElem hi, hp, hc, hq⟩
theorem IlL.on {w W : World} {d : Nat} {x : Option Addr} {l : List Il} (h : IlL (fun b => b < w.heap.size) d w x l) (hb : Below w.heap.size w W) : IlL (fun b => b < W.heap.size) d W x l := (h.fr (old_fr hb)).sub fun b q => Nat.lt_of_lt_of_le q hb.size
theorem IlP.on {w W : World} {d : Nat} {x1 x2 x3 x4 : Option Addr} {t : Il} (h : IlP (fun b => b < w.heap.size) d w x1 x2 x3 x4 t) (hb : Below w.heap.size w W) : IlP (fun b => b < W.heap.size) d W x1 x2 x3 x4 t := (h.fr (old_fr hb)).sub fun b q => Nat.lt_of_lt_of_le q hb.size
/-- Are the heads of two instructions the same? -/
def hdI (h h' : IH) : Bool := (h.lb.toList == h'.lb.toList) && (h.op.toList == h'.op.toList) && (h.nt == h'.nt) && (h.cd == h'.cd) && (h.ob == h'.ob)
/-- The call that an instruction is compared as. -/
def ilS (t : Il) : St := .mk ⟨10, 0, t.h.nm, 0, 0, 0, 0⟩ t.ag t.ns t.os t.on [] [] []
/-- Are two instructions the same? -/
def smI (d : Nat) (t t' : Il) : Bool := hdI t.h t'.h && smL (smS (d + 1)) [ilS t] [ilS t']
end Go.Proofs.Yteffdmjleihhdaa
