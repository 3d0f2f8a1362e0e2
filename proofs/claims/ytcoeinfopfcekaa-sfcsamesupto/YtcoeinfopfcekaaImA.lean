/- Images in memory; no statement of the seat is proved here. -/
import Derived.Test.YtcoeinfopfcekaaRwA
namespace Go.Proofs.Ytcoeinfopfcekaa
set_option linter.unusedVariables false
open Go.RowKit
/-- A cell. -/
structure CeR where
  kd : Int
  sb : Bool
  lo : Int
  hi : Int
  mx : Int
  ik : Int
  ib : Int
  is : ByteArray
  kp : Bool
  dr : Int
  ad : ByteArray
/-- An instruction. -/
structure OpR where
  cd : Int
  a : Int
  b : Int
  c : Int
  d : Int
  lo : Int
  hi : Int
  vk : Int
  vb : Int
  vs : ByteArray
/-- A loop. -/
structure LpR where
  hd : Int
  en : Int
  tm : Int
/-- A code. -/
structure FlR where
  nm : ByteArray
  wh : Int
  ce : Int
  ba : Int
  rg : Int
  sl : Int
  os : List OpR
  ls : List LpR
/-- A task. -/
structure JbR where
  nm : ByteArray
  iv : Int
  sg : Int
  pr : Int
  cs : List Int
  bs : List Int
  bd : Int
/-- An image. -/
structure ImR where
  nm : ByteArray
  cs : List CeR
  fs : List FlR
  js : List JbR
abbrev ceC (c : CeR) : List Value := [.int .u8 c.kd, .bool c.sb, .int .i64 c.lo, .int .i64 c.hi, .int .i64 c.mx, .int .u8 c.ik, .int .u64 c.ib, .string c.is, .bool c.kp, .int .i64 c.dr, .string c.ad]
abbrev opC (o : OpR) : List Value := [.int .i64 o.cd, .int .i64 o.a, .int .i64 o.b, .int .i64 o.c, .int .i64 o.d, .int .i64 o.lo, .int .i64 o.hi, .int .u8 o.vk, .int .u64 o.vb, .string o.vs]
abbrev lpC (l : LpR) : List Value := [.int .i64 l.hd, .int .i64 l.en, .int .i64 l.tm]
abbrev inC (n : Int) : List Value := [.int .i64 n]
/-- The cells of a code. -/
abbrev flC (f : FlR) (o l : Value) : List Value := [.string f.nm, .int .i64 f.wh, .int .i64 f.ce, .int .i64 f.ba, .int .i64 f.rg, .int .i64 f.sl, o, l]
abbrev jbC (j : JbR) (c b : Value) : List Value := [.string j.nm, .int .i64 j.iv, .int .i64 j.sg, .int .i64 j.pr, c, b, .int .i64 j.bd]
abbrev imC (m : ImR) (c f j : Value) : List Value := [.string m.nm, c, f, j]
/-- A code's parts. -/
def FlQ (S : Nat → Prop) (w : World) (f : FlR) (x1 x2 : Option Addr) : Prop := RwF 10 (Is opC) S w x1 f.os ∧ RwF 3 (Is lpC) S w x2 f.ls
def FlP (S : Nat → Prop) (w : World) (f : FlR) (vs : List Value) : Prop := ∃ x1 c1 x2 c2, vs = flC f (.slice x1 f.os.length c1) (.slice x2 f.ls.length c2) ∧ FlQ S w f x1 x2
/-- A task's parts. -/
def JbQ (S : Nat → Prop) (w : World) (j : JbR) (x1 x2 : Option Addr) : Prop := RwF 1 (Is inC) S w x1 j.cs ∧ RwF 1 (Is inC) S w x2 j.bs
def JbP (S : Nat → Prop) (w : World) (j : JbR) (vs : List Value) : Prop := ∃ x1 c1 x2 c2, vs = jbC j (.slice x1 j.cs.length c1) (.slice x2 j.bs.length c2) ∧ JbQ S w j x1 x2
/-- An image's parts. -/
def ImQ (S : Nat → Prop) (w : World) (m : ImR) (x1 x2 x3 : Option Addr) : Prop := RwF 11 (Is ceC) S w x1 m.cs ∧ RwF 8 (FlP S w) S w x2 m.fs ∧ RwF 7 (JbP S w) S w x3 m.js
theorem FlQ.fr {S : Nat → Prop} {w w' : World} {f : FlR} {x1 x2 : Option Addr} (h : FlQ S w f x1 x2) (k : FrS S w w') : FlQ S w' f x1 x2 := ⟨h.1.fr k, h.2.fr k⟩
theorem FlQ.sub {S T : Nat → Prop} (hST : ∀ b, S b → T b) {w : World} {f : FlR} {x1 x2 : Option Addr} (h : FlQ S w f x1 x2) : FlQ T w f x1 x2 := ⟨h.1.sub hST, h.2.sub hST⟩
theorem JbQ.fr {S : Nat → Prop} {w w' : World} {f : JbR} {x1 x2 : Option Addr} (h : JbQ S w f x1 x2) (k : FrS S w w') : JbQ S w' f x1 x2 := ⟨h.1.fr k, h.2.fr k⟩
theorem JbQ.sub {S T : Nat → Prop} (hST : ∀ b, S b → T b) {w : World} {f : JbR} {x1 x2 : Option Addr} (h : JbQ S w f x1 x2) : JbQ T w f x1 x2 := ⟨h.1.sub hST, h.2.sub hST⟩
theorem keptF : Kept FlP where
  fr := fun ⟨x1, c1, x2, c2, e, h⟩ k => ⟨x1, c1, x2, c2, e, h.fr k⟩
  sub := fun hST ⟨x1, c1, x2, c2, e, h⟩ => ⟨x1, c1, x2, c2, e, h.sub hST⟩
theorem keptJ : Kept JbP where
  fr := fun ⟨x1, c1, x2, c2, e, h⟩ k => ⟨x1, c1, x2, c2, e, h.fr k⟩
  sub := fun hST ⟨x1, c1, x2, c2, e, h⟩ => ⟨x1, c1, x2, c2, e, h.sub hST⟩
theorem RwF.frK {α : Type} {n : Nat} {P : (Nat → Prop) → World → α → List Value → Prop} (K : Kept P) {S : Nat → Prop} {w w' : World} {x : Option Addr} {l : List α} (h : RwF n (P S w) S w x l) (f : FrS S w w') : RwF n (P S w') S w' x l := (h.fr f).imp fun e vs _ q => K.fr q f
theorem RwF.subK {α : Type} {n : Nat} {P : (Nat → Prop) → World → α → List Value → Prop} (K : Kept P) {S T : Nat → Prop} (hST : ∀ b, S b → T b) {w : World} {x : Option Addr} {l : List α} (h : RwF n (P S w) S w x l) : RwF n (P T w) T w x l := (h.sub hST).imp fun e vs _ q => K.sub hST q
theorem ImQ.fr {S : Nat → Prop} {w w' : World} {m : ImR} {x1 x2 x3 : Option Addr} (h : ImQ S w m x1 x2 x3) (k : FrS S w w') : ImQ S w' m x1 x2 x3 := ⟨h.1.fr k, h.2.1.frK keptF k, h.2.2.frK keptJ k⟩
theorem ImQ.sub {S T : Nat → Prop} (hST : ∀ b, S b → T b) {w : World} {m : ImR} {x1 x2 x3 : Option Addr} (h : ImQ S w m x1 x2 x3) : ImQ T w m x1 x2 x3 := ⟨h.1.sub hST, h.2.1.subK keptF hST, h.2.2.subK keptJ hST⟩
theorem ImQ.old {w W : World} {m : ImR} {x1 x2 x3 : Option Addr} (h : ImQ (fun b => b < w.heap.size) w m x1 x2 x3) (hb : Below w.heap.size w W) : ImQ (fun b => b < W.heap.size) W m x1 x2 x3 := (h.fr (fun q hq => hb.cell hq)).sub fun b q => Nat.lt_of_lt_of_le q hb.size
theorem FlQ.old {w W : World} {m : FlR} {x1 x2 : Option Addr} (h : FlQ (fun b => b < w.heap.size) w m x1 x2) (hb : Below w.heap.size w W) : FlQ (fun b => b < W.heap.size) W m x1 x2 := (h.fr (fun q hq => hb.cell hq)).sub fun b q => Nat.lt_of_lt_of_le q hb.size
theorem JbQ.old {w W : World} {m : JbR} {x1 x2 : Option Addr} (h : JbQ (fun b => b < w.heap.size) w m x1 x2) (hb : Below w.heap.size w W) : JbQ (fun b => b < W.heap.size) W m x1 x2 := (h.fr (fun q hq => hb.cell hq)).sub fun b q => Nat.lt_of_lt_of_le q hb.size
end Go.Proofs.Ytcoeinfopfcekaa
