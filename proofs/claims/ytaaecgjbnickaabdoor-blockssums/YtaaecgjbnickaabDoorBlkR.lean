/- Steps of CTUD; no statement of the seat is proved here. -/
import Derived.Test.YtaaecgjbnickaabDoorBlkQ
namespace Go.Proofs.YtaaecgjbnickaabDoor
set_option linter.unusedVariables false
open Go.RowKit
theorem inp5 (w : World) (ks : ByteArray) (x0 x1 x2 x3 x4 k0 k1 k2 k3 k4 b0 b1 b2 b3 b4 : Int) (h0 : kAt ks 0 = k0) (h1 : kAt ks 1 = k1) (h2 : kAt ks 2 = k2) (h3 : kAt ks 3 = k3) (h4 : kAt ks 4 = k4) (e0 : x0 % 18446744073709551616 = b0) (e1 : x1 % 18446744073709551616 = b1) (e2 : x2 % 18446744073709551616 = b2) (e3 : x3 % 18446744073709551616 = b3) (e4 : x4 % 18446744073709551616 = b4) :
    VsAt (w.alloc (.cells #[.int .u8 k0, .int .u64 b0, .string ⟨#[]⟩, .int .u8 k1, .int .u64 b1, .string ⟨#[]⟩, .int .u8 k2, .int .u64 b2, .string ⟨#[]⟩, .int .u8 k3, .int .u64 b3, .string ⟨#[]⟩, .int .u8 k4, .int .u64 b4, .string ⟨#[]⟩] 30)) ⟨w.heap.size, 0, none⟩ 5 (vlL ks [x0, x1, x2, x3, x4]) := by
  subst h0 h1 h2 h3 h4 e0 e1 e2 e3 e4
  have : Row3 (w.alloc (.cells #[.int .u8 (kAt ks 0), .int .u64 (x0 % 18446744073709551616), .string ⟨#[]⟩, .int .u8 (kAt ks 1), .int .u64 (x1 % 18446744073709551616), .string ⟨#[]⟩, .int .u8 (kAt ks 2), .int .u64 (x2 % 18446744073709551616), .string ⟨#[]⟩, .int .u8 (kAt ks 3), .int .u64 (x3 % 18446744073709551616), .string ⟨#[]⟩, .int .u8 (kAt ks 4), .int .u64 (x4 % 18446744073709551616), .string ⟨#[]⟩] 30)) w.heap.size 5 (vlL ks [x0, x1, x2, x3, x4]) := by
    refine ⟨_, heap_alloc_last w _, by simp, fun i hi => ?_⟩
    match i, hi with
    | 0, _ => exact ⟨rfl, rfl, rfl⟩
    | 1, _ => exact ⟨rfl, rfl, rfl⟩
    | 2, _ => exact ⟨rfl, rfl, rfl⟩
    | 3, _ => exact ⟨rfl, rfl, rfl⟩
    | 4, _ => exact ⟨rfl, rfl, rfl⟩
  exact this.at
/-- A step of a counter both ways. -/
theorem stepB (K now : Int) (a b : Addr) (cap capm : Nat) (x0 x1 x2 x3 x4 l0 l1 l2 l3 l4 l5 l6 l7 l8 l9 : Int) (w : World) (hS : StOk K ksB.size ksB now) (hv : VsAt w a 10 (vlL ksB [l0, l1, l2, l3, l4, l5, l6, l7, l8, l9])) (hu : VsAt w b 5 (vlL ksB [x0, x1, x2, x3, x4]))
    (hL : okL ksB [l0, l1, l2, l3, l4, l5, l6, l7, l8, l9]) (h0 : B01 x0) (h1 : B01 x1) (h2 : B01 x2) (h3 : B01 x3) (h4 : -32768 ≤ x4 ∧ x4 ≤ 32767) :
    Calls Tryd.prog 7 #[.int .i64 K, .slice (some a) 10 cap, .int .i64 now, .slice (some b) 5 capm] w fun e w' => ∃ g, e = .returned (NS g 10) ∧ w.heap.size ≤ g ∧ Row3 w' g 10 (vlL ksB (nxt K (clN now) [x0, x1, x2, x3, x4, l5, l6, l7, l8, l9])) ∧ Below w.heap.size w w' :=
  stepL K 5 ksB now a b cap capm _ _ w hS hv hu hL rfl (fun i hi => by
    match i, hi with
    | 0, _ => exact okN1 h0
    | 1, _ => exact okN1 h1
    | 2, _ => exact okN1 h2
    | 3, _ => exact okN1 h3
    | 4, _ => exact okN3 h4) (by decide) (by decide) (by decide)
theorem stok7 (now : Int) : StOk 7 ksB.size ksB now := fun a cap v w h1 h2 h3 => Step_7 a cap v now w h1 h2 h3
/-- How often one input has risen, less the other. -/
def smN (n : Int) (u d a b : Bool) : Int :=
  if (u = true ∧ a = false) ∧ ¬ (d = true ∧ b = false) ∧ n < 32767 then n + 1 else if (d = true ∧ b = false) ∧ ¬ (u = true ∧ a = false) ∧ -32768 < n then n - 1 else n
theorem sm_next (n pv qu qd : Int) (u d a b : Bool) : nxt 7 0 [tN u, tN d, 0, 0, pv, qu, qd, n, tN a, tN b] = [tN u, tN d, 0, 0, pv, tN (decide (pv ≤ smN n u d a b)), tN (decide (smN n u d a b ≤ 0)), smN n u d a b, tN u, tN d] := by
  have e : vB (tN u) (tN d) 0 0 pv n (tN a) (tN b) = smN n u d a b := by
    unfold vB smN cUp cDn
    cases u <;> cases d <;> cases a <;> cases b <;> simp [tN]
  exact nxt_B 7 0 _ _ _ _ _ _ _ _ _ _ _ e
/-- The same by what rises. -/
def smQ (n : Int) (x y : Bool) : Int := if x = true ∧ y = false ∧ n < 32767 then n + 1 else if y = true ∧ x = false ∧ -32768 < n then n - 1 else n
theorem smQ_is (n : Int) (u d a b : Bool) : smN n u d a b = smQ n (u && !a) (d && !b) := by
  unfold smN smQ; cases u <;> cases d <;> cases a <;> cases b <;> simp
theorem sm_first (pv : Int) : nxt 7 0 [0, 0, 0, 1, pv, 0, 0, 0, 0, 0] = [0, 0, 0, 1, pv, tN (decide (pv ≤ pv)), tN (decide (pv ≤ 0)), pv, 0, 0] := nxt_B 7 0 _ _ _ _ _ _ _ _ _ _ _ rfl
theorem sm_rg {n : Int} (h : -32768 ≤ n ∧ n ≤ 32767) (u d a b : Bool) : -32768 ≤ smN n u d a b ∧ smN n u d a b ≤ 32767 := by
  unfold smN; split
  · omega
  split
  · omega
  · omega
theorem okB {l0 l1 l2 l3 l4 l5 l6 l7 l8 l9 : Int} (h0 : B01 l0) (h1 : B01 l1) (h2 : B01 l2) (h3 : B01 l3) (h4 : -32768 ≤ l4 ∧ l4 ≤ 32767) (h5 : B01 l5) (h6 : B01 l6) (h7 : -32768 ≤ l7 ∧ l7 ≤ 32767) (h8 : B01 l8) (h9 : B01 l9) : okL ksB [l0, l1, l2, l3, l4, l5, l6, l7, l8, l9] :=
  ⟨rfl, forall10 (okN1 h0) (okN1 h1) (okN1 h2) (okN1 h3) (okN3 h4) (okN1 h5) (okN1 h6) (okN3 h7) (okN1 h8) (okN1 h9)⟩
end Go.Proofs.YtaaecgjbnickaabDoor
