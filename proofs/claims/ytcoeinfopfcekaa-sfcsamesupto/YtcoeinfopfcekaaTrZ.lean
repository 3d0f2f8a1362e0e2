/- A tree of statements is the same as itself; st.Same; no statement of the seat is proved here. -/
import Derived.Test.YtcoeinfopfcekaaTrU
import Derived.Test.YtcoeinfopfcekaaTrX
import Derived.Test.YtcoeinfopfcekaaTrY
namespace Go.Proofs.Ytcoeinfopfcekaa
set_option linter.unusedVariables false
open Go.RowKit
theorem smL_refl {α : Type} (f : α → α → Bool) : ∀ l : List α, (∀ (i : Nat) e, l[i]? = some e → f e e = true) → smL f l l = true
  | [], _ => rfl
  | a :: l, h => by
    have h0 := h 0 a rfl
    have := smL_refl f l fun i e he => h (i + 1) e (by simpa using he)
    simp [smL, h0, this]
theorem kd_refl' {S : Nat → Prop} {d : Nat} {w : World} {x : Option Addr} {l : List Ex} (h0 : x = none → l = []) (hk : ∀ b, x = some b → ∀ i e, l[i]? = some e → ExF S d w (b.add (i * 14)) e) (f : ∀ p e, ExF S d w p e → smE d e e = true) : smL (smE d) l l = true := by
  cases x with
  | none => rw [h0 rfl]; rfl
  | some b => exact smL_refl _ _ fun i e he => f _ _ (hk b rfl i e he)
theorem smE_refl {S : Nat → Prop} : ∀ (d : Nat) (w : World) (p : Addr) (e : Ex), ExF S d w p e → smE d e e = true
  | 0, _, _, _, h => h.elim
  | d + 1, w, p, .mk h ns l, ⟨_, x, c, y, c', _, _, _, _, h0, hk⟩ => by
    have := kd_refl' h0 hk fun p e q => smE_refl d w p e q
    simp [smE, hdS, this]
theorem kd_refl {S : Nat → Prop} {d : Nat} {w : World} {x : Option Addr} {l : List Ex} (h : KdF S d w x l) : smL (smE d) l l = true := kd_refl' h.2.1 h.2.2 fun p e q => smE_refl d w p e q
theorem st_refl' {S : Nat → Prop} {d : Nat} {w : World} {x : Option Addr} {l : List St} (h0 : x = none → l = []) (hk : ∀ b, x = some b → ∀ i e, l[i]? = some e → StF S d w (b.add (i * 14)) e) (f : ∀ p e, StF S d w p e → smS d e e = true) : smL (smS d) l l = true := by
  cases x with
  | none => rw [h0 rfl]; rfl
  | some b => exact smL_refl _ _ fun i e he => f _ _ (hk b rfl i e he)
theorem smS_refl {S : Nat → Prop} : ∀ (d : Nat) (w : World) (p : Addr) (s : St), StF S d w p s → smS d s s = true
  | 0, _, _, _, h => h.elim
  | d + 1, w, p, .mk h es ns os on rs b e, ⟨hp, x1, c1, x2, c2, x3, c3, x4, c4, x5, c5, x6, c6, x7, c7, hc, k1, n1, f1, k2, n2, f2, r1, f3, f4, b1, b2, f5, e1, e2⟩ => by
    have q1 := kd_refl k1
    have q2 := kd_refl k2
    have q3 := st_refl' b1 b2 fun p e q => smS_refl d w p e q
    have q4 := st_refl' e1 e2 fun p e q => smS_refl d w p e q
    simp [smS, hdT, q1, q2, q3, q4]
theorem st_refl {S : Nat → Prop} {d : Nat} {w : World} {x : Option Addr} {l : List St} (h : StL S d w x l) : smL (smS d) l l = true := st_refl' h.2.1 h.2.2 fun p e q => smS_refl d w p e q
set_option maxHeartbeats 1000000 in
theorem Same_of (d : Nat) (hd : d ≤ 131072) (w : World) (x x' : Option Addr) (l l' : List St) (c c' : Nat) (h : StL (fun b => b < w.heap.size) d w x l) (h' : StL (fun b => b < w.heap.size) d w x' l') :
    Calls Try.prog 30 #[.slice x l.length c, .slice x' l'.length c'] w fun e w' => e = .returned (.bool (smL (smS d) l l')) ∧ Below w.heap.size w w' := by
  have C : Hid (∀ W, W = w → Calls Try.prog 37 #[.slice x l.length c, .slice x' l'.length c', .int .i64 0] W fun e w' => e = .returned (.bool (smL (smS d) l l')) ∧ Below W.heap.size W w') := fun W e => by subst e; exact ssL_of d W x x' l l' c c' 0 h h' (by omega) (by omega)
  clear h h'
  generalize smL (smS d) l l' = r at *
  go_enter Try.func30, Try.ntmps30
  go_wp2_with (go_at_call 37; refine (C.out _ rfl).mono ?_; rintro e w1 ⟨rfl, hb⟩; have HB : Hid (Below w.heap.size w w1) := hb; clear hb)
  go_ret
  exact ⟨rfl, HB.out⟩
end Go.Proofs.Ytcoeinfopfcekaa
