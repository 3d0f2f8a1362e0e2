/- st's sameness of expressions; no statement of the seat is proved here. -/
import Derived.Test.YtcoeinfopfcekaaTrE
namespace Go.Proofs.Ytcoeinfopfcekaa
set_option linter.unusedVariables false
open Go.RowKit
theorem enter_x1 (args : Array Value) (w : World) : (callFunc 44 args).run Try.prog w = .ok (.enter 44 args) w := by kernel_rfl
theorem KdAt.any {d e : Nat} {w : World} {x : Option Addr} (h : KdAt d w x []) : KdAt e w x [] := ⟨h.1, fun _ => rfl, fun b _ i q hq => by simp at hq⟩
/-- What sameExprs answers. -/
def SmL (d : Nat) : Prop := ∀ (w : World) (x x' : Option Addr) (l l' : List Ex) (c c' : Nat) (N : Int), KdAt d w x l → KdAt d w x' l' → 0 ≤ N → N + d ≤ 131072 →
  Calls Try.prog 42 #[.slice x l.length c, .slice x' l'.length c', .int .i64 N] w fun e w' => e = .returned (.bool (smL (smE d) l l')) ∧ Below w.heap.size w w'
/-- What sameExpr answers. -/
def SmX (d : Nat) : Prop := ∀ (w : World) (v v' : Value) (e e' : Ex) (N : Int), EvOk d w v e → EvOk d w v' e' → 0 ≤ N → N + d ≤ 131072 →
  Calls Try.prog 45 #[v, v', .int .i64 N] w fun r w' => r = .returned (.bool (smE (d + 1) e e')) ∧ Below w.heap.size w w'
theorem smX_of (d : Nat) (L : SmL d) : SmX d := by
  intro w v v' e e' N hv hv' h0 h1
  cases e with
  | mk h ns l =>
    cases e' with
    | mk h' ns' l' =>
      obtain ⟨x, c, y, c', rfl, hn, f1, hk⟩ := hv
      obtain ⟨x', c2, y', c2', rfl, hn', f1', hk'⟩ := hv'
      exact sameX h h' x y x' y' l.length ns.length l'.length ns'.length c c' c2 c2' N w _ _ (by omega) (fun W hb => EqualT y y' ns ns' c' c2' W (hn.below hb) (hn'.below hb) (Nat.lt_trans f1 (by decide))) (fun W hb => L W x x' l l' c c2 N (hk.below hb) (hk'.below hb) h0 h1)
theorem smL_of : ∀ d, SmL d
  | 0 => by
    intro w x x' l l' c c' N hk hk' h0 h1
    obtain rfl := hk.none0
    obtain rfl := hk'.none0
    exact sameX0 x x' 0 0 c c' N w _ fun W p hb hp => EqualFE 44 p 0 (smE 0) x x' [] [] c c' W ((hk.below hb).any) ((hk'.below hb).any) enter_x1 fun W v v' e e' _ hm => by simp at hm
  | d + 1 => by
    intro w x x' l l' c c' N hk hk' h0 h1
    refine sameX0 x x' l.length l'.length c c' N w _ fun W p hb hp => EqualFE 44 p d (smE (d + 1)) x x' l l' c c' W (hk.below hb) (hk'.below hb) enter_x1 fun W' v v' e e' hb' _ hv hv' => ?_
    have hp' := (hb'.cell (p := ⟨p, 0, none⟩) (block_lt_of_cell hp)).trans hp
    have X := smX_of d (smL_of d)
    cases e with
    | mk h ns kl =>
      cases e' with
      | mk h' ns' kl' =>
        have hv0 := hv
        have hv0' := hv'
        obtain ⟨x1, c1, y1, c1', e1, hn, f1, hkk⟩ := hv
        obtain ⟨x2, c2, y2, c2', e2, hn', f1', hkk'⟩ := hv'
        exact sameX1 h h' x1 y1 x2 y2 kl.length ns.length kl'.length ns'.length c1 c1' c2 c2' N W' p _ v v' e1 e2 hp' h0 (by omega) fun W2 hb2 => X W2 v v' _ _ (N + 1) (EvOk.below hv0 hb2) (EvOk.below hv0' hb2) (by omega) (by omega)
theorem smX_any (d : Nat) : SmX d := smX_of d (smL_of d)
end Go.Proofs.Ytcoeinfopfcekaa
