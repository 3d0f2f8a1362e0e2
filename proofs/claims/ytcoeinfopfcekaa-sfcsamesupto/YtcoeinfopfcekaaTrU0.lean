/- When statements are the same, so deep at most; no statement of the seat is proved here. -/
import Derived.Test.YtcoeinfopfcekaaTrP
import Derived.Test.YtcoeinfopfcekaaTrF
namespace Go.Proofs.Ytcoeinfopfcekaa
set_option linter.unusedVariables false
open Go.RowKit
/-- Are the heads of two statements the same? -/
def hdT (h h' : SH) : Bool := (h.op == h'.op) && (h.nm.toList == h'.nm.toList) && ((h.nu == h'.nu) || (h.op == 5))
/-- Are two statements the same, so deep at most? -/
def smS : Nat → St → St → Bool
  | 0, _, _ => false
  | d + 1, .mk h es ns os on rs b e, .mk h' es' ns' os' on' rs' b' e' => hdT h h' && (decide (ns = ns') && decide (on = on') && decide (rs = rs') && smL (smE d) es es' && smL (smE d) os os' && smL (smS d) b b' && smL (smS d) e e')
theorem StL.any {S : Nat → Prop} {d e : Nat} {w : World} {x : Option Addr} (h : StL S d w x []) : StL S e w x [] := ⟨h.1, fun _ => rfl, fun b _ i q hq => by simp at hq⟩
/-- Older blocks stay. -/
theorem StL.on {w W : World} {d : Nat} {x : Option Addr} {l : List St} (h : StL (fun b => b < w.heap.size) d w x l) (hb : Below w.heap.size w W) : StL (fun b => b < W.heap.size) d W x l := (h.fr (old_fr hb)).sub fun b q => Nat.lt_of_lt_of_le q hb.size
theorem SvF.on {w W : World} {d : Nat} {v : Value} {s : St} (h : SvF (fun b => b < w.heap.size) d w v s) (hb : Below w.heap.size w W) : SvF (fun b => b < W.heap.size) d W v s := (h.fr (old_fr hb)).sub fun b q => Nat.lt_of_lt_of_le q hb.size
theorem KdF.on {w W : World} {d : Nat} {x : Option Addr} {l : List Ex} (h : KdF (fun b => b < w.heap.size) d w x l) (hb : Below w.heap.size w W) : KdF (fun b => b < W.heap.size) d W x l := (h.fr (old_fr hb)).sub fun b q => Nat.lt_of_lt_of_le q hb.size
theorem NmF.on {w W : World} {x : Option Addr} {l : List ByteArray} (h : NmF (fun b => b < w.heap.size) w x l) (hb : Below w.heap.size w W) : NmF (fun b => b < W.heap.size) W x l := (h.fr (old_fr hb)).sub fun b q => Nat.lt_of_lt_of_le q hb.size
theorem RgF.on {w W : World} {x : Option Addr} {l : List (Int × Int)} (h : RgF (fun b => b < w.heap.size) w x l) (hb : Below w.heap.size w W) : RgF (fun b => b < W.heap.size) W x l := (h.fr (old_fr hb)).sub fun b q => Nat.lt_of_lt_of_le q hb.size
end Go.Proofs.Ytcoeinfopfcekaa
