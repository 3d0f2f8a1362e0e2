/- Charts in memory; no statement of the seat is proved here. -/
import Derived.Test.YtcoeinfopfcekaaTrU0
import Derived.Test.YtcoeinfopfcekaaRwA
namespace Go.Proofs.Ytcoeinfopfcekaa
set_option linter.unusedVariables false
open Go.RowKit
/-- What a step does. -/
structure LkR where
  pl : Int
  ql : ByteArray
  tm : Int
  nm : ByteArray
abbrev lkC (e : LkR) : List Value := [.int .i64 e.pl, .string e.ql, .int .i64 e.tm, .string e.nm]
/-- A step. -/
structure SpR where
  pl : Int
  nm : ByteArray
  ini : Bool
  ls : List LkR
abbrev spC (s : SpR) (v : Value) : List Value := [.int .i64 s.pl, .string s.nm, .bool s.ini, v]
def SpP (S : Nat → Prop) (w : World) (s : SpR) (vs : List Value) : Prop := ∃ x c, vs = spC s (.slice x s.ls.length c) ∧ RwF 4 (Is lkC) S w x s.ls
/-- A transition; its condition's head, names and parts. -/
structure TnR where
  pl : Int
  nm : ByteArray
  fr : List ByteArray
  to : List ByteArray
  eh : EH
  en : List ByteArray
  ek : List Ex
abbrev tnC (t : TnR) (v1 v2 v3 v4 : Value) : List Value := [.int .i64 t.pl, .string t.nm, v1, v2, .int .i64 t.eh.op, .int .i64 t.eh.pl, .string t.eh.nm, .string t.eh.fd, .int .u8 t.eh.vk, .int .u64 t.eh.vb, .string t.eh.vs, v3, v4, .int .u8 t.eh.kd, .int .i64 t.eh.ar, .int .i64 t.eh.rf, .int .i64 t.eh.fr, .int .i64 t.eh.up]
def TnQ (S : Nat → Prop) (d : Nat) (w : World) (t : TnR) (x1 x2 x3 x4 : Option Addr) : Prop := (NmF S w x1 t.fr ∧ few t.fr.length) ∧ (NmF S w x2 t.to ∧ few t.to.length) ∧ KdF S d w x3 t.ek ∧ (NmF S w x4 t.en ∧ few t.en.length)
def TnP (d : Nat) (S : Nat → Prop) (w : World) (t : TnR) (vs : List Value) : Prop := ∃ x1 c1 x2 c2 x3 c3 x4 c4, vs = tnC t (.slice x1 t.fr.length c1) (.slice x2 t.to.length c2) (.slice x3 t.ek.length c3) (.slice x4 t.en.length c4) ∧ TnQ S d w t x1 x2 x3 x4
/-- An action. -/
structure AcR where
  pl : Int
  nm : ByteArray
  bd : List St
abbrev acC (a : AcR) (v : Value) : List Value := [.int .i64 a.pl, .string a.nm, v]
def AcP (d : Nat) (S : Nat → Prop) (w : World) (a : AcR) (vs : List Value) : Prop := ∃ x c, vs = acC a (.slice x a.bd.length c) ∧ StL S d w x a.bd
/-- A chart. -/
structure ChR where
  ss : List SpR
  ts : List TnR
  ac : List AcR
def ChQ (S : Nat → Prop) (d : Nat) (w : World) (c : ChR) (x1 x2 x3 : Option Addr) : Prop := RwF 4 (SpP S w) S w x1 c.ss ∧ RwF 18 (TnP d S w) S w x2 c.ts ∧ RwF 3 (AcP d S w) S w x3 c.ac
theorem keptSp : Kept SpP where
  fr := fun ⟨x, c, e, h⟩ f => ⟨x, c, e, h.fr f⟩
  sub := fun hS ⟨x, c, e, h⟩ => ⟨x, c, e, h.sub hS⟩
theorem TnQ.fr {S : Nat → Prop} {d : Nat} {w w' : World} {t : TnR} {x1 x2 x3 x4 : Option Addr} (h : TnQ S d w t x1 x2 x3 x4) (f : FrS S w w') : TnQ S d w' t x1 x2 x3 x4 := ⟨⟨h.1.1.fr f, h.1.2⟩, ⟨h.2.1.1.fr f, h.2.1.2⟩, h.2.2.1.fr f, ⟨h.2.2.2.1.fr f, h.2.2.2.2⟩⟩
theorem TnQ.sub {S T : Nat → Prop} (hS : ∀ b, S b → T b) {d : Nat} {w : World} {t : TnR} {x1 x2 x3 x4 : Option Addr} (h : TnQ S d w t x1 x2 x3 x4) : TnQ T d w t x1 x2 x3 x4 := ⟨⟨h.1.1.sub hS, h.1.2⟩, ⟨h.2.1.1.sub hS, h.2.1.2⟩, h.2.2.1.sub hS, ⟨h.2.2.2.1.sub hS, h.2.2.2.2⟩⟩
theorem keptTn (d : Nat) : Kept (TnP d) where
  fr := fun ⟨x1, c1, x2, c2, x3, c3, x4, c4, e, h⟩ f => ⟨x1, c1, x2, c2, x3, c3, x4, c4, e, h.fr f⟩
  sub := fun hS ⟨x1, c1, x2, c2, x3, c3, x4, c4, e, h⟩ => ⟨x1, c1, x2, c2, x3, c3, x4, c4, e, h.sub hS⟩
theorem keptAc (d : Nat) : Kept (AcP d) where
  fr := fun ⟨x, c, e, h⟩ f => ⟨x, c, e, h.fr f⟩
  sub := fun hS ⟨x, c, e, h⟩ => ⟨x, c, e, h.sub hS⟩
theorem rw_frK {α : Type} {n : Nat} {P : (Nat → Prop) → World → α → List Value → Prop} (K : Kept P) {S : Nat → Prop} {w w' : World} {x : Option Addr} {l : List α} (h : RwF n (P S w) S w x l) (f : FrS S w w') : RwF n (P S w') S w' x l := (h.fr f).imp fun e vs _ q => K.fr q f
theorem rw_subK {α : Type} {n : Nat} {P : (Nat → Prop) → World → α → List Value → Prop} (K : Kept P) {S T : Nat → Prop} (hST : ∀ b, S b → T b) {w : World} {x : Option Addr} {l : List α} (h : RwF n (P S w) S w x l) : RwF n (P T w) T w x l := (h.sub hST).imp fun e vs _ q => K.sub hST q
theorem ChQ.fr {S : Nat → Prop} {d : Nat} {w w' : World} {c : ChR} {x1 x2 x3 : Option Addr} (h : ChQ S d w c x1 x2 x3) (f : FrS S w w') : ChQ S d w' c x1 x2 x3 := ⟨rw_frK keptSp h.1 f, rw_frK (keptTn d) h.2.1 f, rw_frK (keptAc d) h.2.2 f⟩
theorem ChQ.sub {S T : Nat → Prop} (hS : ∀ b, S b → T b) {d : Nat} {w : World} {c : ChR} {x1 x2 x3 : Option Addr} (h : ChQ S d w c x1 x2 x3) : ChQ T d w c x1 x2 x3 := ⟨rw_subK keptSp hS h.1, rw_subK (keptTn d) hS h.2.1, rw_subK (keptAc d) hS h.2.2⟩
theorem ChQ.on {w W : World} {d : Nat} {c : ChR} {x1 x2 x3 : Option Addr} (h : ChQ (fun b => b < w.heap.size) d w c x1 x2 x3) (hb : Below w.heap.size w W) : ChQ (fun b => b < W.heap.size) d W c x1 x2 x3 := (h.fr (old_fr hb)).sub fun b q => Nat.lt_of_lt_of_le q hb.size
/-- A condition. -/
def TnR.cd (t : TnR) : Ex := .mk t.eh t.en t.ek
/-- Are two the same? -/
def smLk (e e' : LkR) : Bool := (e.ql.toList == e'.ql.toList) && (e.tm == e'.tm) && (e.nm.toList == e'.nm.toList)
def smSp (s s' : SpR) : Bool := (s.nm.toList == s'.nm.toList) && (s.ini == s'.ini) && smL smLk s.ls s'.ls
def smTn (d : Nat) (t t' : TnR) : Bool := (t.nm.toList == t'.nm.toList) && decide (t.fr = t'.fr) && decide (t.to = t'.to) && smE (d + 1) t.cd t'.cd
def smAc (d : Nat) (a a' : AcR) : Bool := (a.nm.toList == a'.nm.toList) && smL (smS d) a.bd a'.bd
def smCh (d : Nat) (c c' : ChR) : Bool := smL smSp c.ss c'.ss && smL (smTn d) c.ts c'.ts && smL (smAc d) c.ac c'.ac
/-- A condition as a statement. -/
def cnd (o : Int) (t : TnR) : St := .mk ⟨o, 0, ⟨#[]⟩, 0, 0, 0, 0⟩ [t.cd] [] [] [] [] [] []
theorem cnd_same (d : Nat) (o : Int) (t t' : TnR) : smL (smS (d + 1)) [cnd o t] [cnd o t'] = smE d t.cd t'.cd := by simp [cnd, smL, smS, hdT]
end Go.Proofs.Ytcoeinfopfcekaa
