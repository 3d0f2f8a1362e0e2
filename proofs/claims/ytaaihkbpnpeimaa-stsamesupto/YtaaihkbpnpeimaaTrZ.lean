/- A tree of statements is the same as itself; st.Same; no statement of the seat is proved here. -/
import Derived.Test.YtaaihkbpnpeimaaTrU
import Derived.Test.YtaaihkbpnpeimaaTrX
import Derived.Test.YtaaihkbpnpeimaaTrY
namespace Go.Proofs.Ytaaihkbpnpeimaa
set_option linter.unusedVariables false
open Go.RowKit
theorem smL_refl {α : Type} (f : α → α → Bool) : ∀ l : List α, (∀ (i : Nat) e, l[i]? = some e → f e e = true) → smL f l l = true
  | [], _ => rfl
  | a :: l, h => by
    have h0 := h 0 a rfl
    have := smL_refl f l fun i e he => h (i + 1) e (by simpa using he)
    simp [smL, h0, this]
theorem kd_refl' {S : Nat → Prop} {d : Nat} {w : World} {x : Option Addr} {l : List Ex} (h0 : x = none → l = []) (hk : ∀ b, x = some b → ∀ i e, l[i]? = some e → ExF S d w (b.add (i * 14)) e) (f : ∀ p e, ExF S d w p e → smE d e e = true) : smL (smE d) l l = true := by
  cases x with
  | none => rw [h0 rfl]; rfl
  | some b => exact smL_refl _ _ fun i e he => f _ _ (hk b rfl i e he)
theorem smE_refl {S : Nat → Prop} : ∀ (d : Nat) (w : World) (p : Addr) (e : Ex), ExF S d w p e → smE d e e = true
  | 0, _, _, _, h => h.elim
  | d + 1, w, p, .mk h ns l, ⟨_, x, c, y, c', _, _, _, _, h0, hk⟩ => by
    have := kd_refl' h0 hk fun p e q => smE_refl d w p e q
    simp [smE, hdS, this]
theorem kd_refl {S : Nat → Prop} {d : Nat} {w : World} {x : Option Addr} {l : List Ex} (h : KdF S d w x l) : smL (smE d) l l = true := kd_refl' h.2.1 h.2.2 fun p e q => smE_refl d w p e q
theorem st_refl' {S : Nat → Prop} {d : Nat} {w : World} {x : Option Addr} {l : List St} (h0 : x = none → l = []) (hk : ∀ b, x = some b → ∀ i e, l[i]? = some e → StF S d w (b.add (i * 14)) e) (f : ∀ p e, StF S d w p e → smS d e e = true) : smL (smS d) l l = true := by
  cases x with
  | none => rw [h0 rfl]; rfl
  | some b => exact smL_refl _ _ fun i e he => f _ _ (hk b rfl i e he)
theorem smS_refl {S : Nat → Prop} : ∀ (d : Nat) (w : World) (p : Addr) (s : St), StF S d w p s → smS d s s = true
  | 0, _, _, _, h => h.elim
  | d + 1, w, p, .mk h es ns os on rs b e, ⟨hp, x1, c1, x2, c2, x3, c3, x4, c4, x5, c5, x6, c6, x7, c7, hc, k1, n1, f1, k2, n2, f2, r1, f3, f4, b1, b2, f5, e1, e2⟩ => by
    have q1 := kd_refl k1
    have q2 := kd_refl k2
    have q3 := st_refl' b1 b2 fun p e q => smS_refl d w p e q
    have q4 := st_refl' e1 e2 fun p e q => smS_refl d w p e q
    simp [smS, hdT, q1, q2, q3, q4]
theorem st_refl {S : Nat → Prop} {d : Nat} {w : World} {x : Option Addr} {l : List St} (h : StL S d w x l) : smL (smS d) l l = true := st_refl' h.2.1 h.2.2 fun p e q => smS_refl d w p e q
set_option maxHeartbeats 1000000 in
theorem Same_of (d : Nat) (hd : d ≤ 131072) (w : World) (x x' : Option Addr) (l l' : List St) (c c' : Nat) (h : StL (fun b => b < w.heap.size) d w x l) (h' : StL (fun b => b < w.heap.size) d w x' l') :
    Calls Try.prog 4 #[.slice x l.length c, .slice x' l'.length c'] w fun e w' => e = .returned (.bool (smL (smS d) l l')) ∧ Below w.heap.size w w' := by
  have C : Hid (∀ W, W = w → Calls Try.prog 7 #[.slice x l.length c, .slice x' l'.length c', .int .i64 0] W fun e w' => e = .returned (.bool (smL (smS d) l l')) ∧ Below W.heap.size W w') := fun W e => by subst e; exact ssL_of d W x x' l l' c c' 0 h h' (by omega) (by omega)
  clear h h'
  generalize smL (smS d) l l' = r at *
  go_enter Try.func4, Try.ntmps4
  go_wp2_with (go_at_call 7; refine (C.out _ rfl).mono ?_; rintro e w1 ⟨rfl, hb⟩; have HB : Hid (Below w.heap.size w w1) := hb; clear hb)
  go_ret
  exact ⟨rfl, HB.out⟩
set_option maxHeartbeats 2000000 in
theorem sames_walk (d : Nat) (hd : d ≤ 131072) (w : World) (x x' : Option Addr) (l l' : List St) (c c' : Nat) (h : StL (fun b => b < w.heap.size) d w x l) (h' : StL (fun b => b < w.heap.size) d w x' l') :
    Calls Try.prog 3 #[.slice x l.length c, .slice x' l'.length c'] w fun e w' => e = .returned (.bool true) ∧ Below w.heap.size w w' := by
  have HA : Hid (StL (fun b => b < w.heap.size) d w x l) := h
  have HB : Hid (StL (fun b => b < w.heap.size) d w x' l') := h'
  have RF : Hid (smL (smS d) l l = true) := st_refl h
  have HD : Hid (d ≤ 131072) := hd
  clear h h' hd
  go_enter Try.func3, Try.ntmps3
  go_wp2_with fail
  refine (csL_any d w x l c HA.out).mono ?_
  rintro r w1 ⟨⟨y1, c1, rfl, h1⟩, b1⟩
  have H1 : Hid (StL (Fresh w.heap.size w1.heap.size) d w1 y1 l) := h1
  have B1 : Hid (Below w.heap.size w w1) := b1
  clear h1 b1
  go_wp2_with fail
  refine (csL_any d w1 x' l' c' (HB.out.on B1.out)).mono ?_
  rintro r w2 ⟨⟨y2, c2, rfl, h2⟩, b2⟩
  have H2 : Hid (StL (fun b => b < w2.heap.size) d w2 y2 l') := h2.sub fun b q => q.2
  have H1' : Hid (StL (fun b => b < w2.heap.size) d w2 y1 l) := (H1.out.fr (fresh_fr b2 (Nat.le_refl _))).sub fun b q => Nat.lt_of_lt_of_le q.2 b2.size
  have B2 : Hid (Below w.heap.size w w2) := B1.out.trans (b2.mono B1.out.size)
  clear h2 b2
  go_wp2_with fail
  refine (Same_of d HD.out w2 y1 y2 l l' c1 c2 H1'.out H2.out).mono ?_
  rintro r w3 ⟨rfl, b3⟩
  have B3 : Hid (Below w.heap.size w w3) := B2.out.trans (b3.mono B2.out.size)
  clear b3
  go_wp2_with fail
  refine (sdL_of d w3 x x' l l' c c' (HA.out.on B3.out) (HB.out.on B3.out)).mono ?_
  rintro r w4 ⟨rfl, b4⟩
  have B4 : Hid (Below w.heap.size w w4) := B3.out.trans (b4.mono B3.out.size)
  clear b4
  generalize smL (smS d) l l' = r at *
  have er : (r == r) = true := by simp
  go_wp2_with fail
  refine (Same_of d HD.out w4 x x l l c c (HA.out.on B4.out) (HA.out.on B4.out)).mono ?_
  rintro e w5 ⟨rfl, b5⟩
  have B5 : Hid (Below w.heap.size w w5) := B4.out.trans (b5.mono B4.out.size)
  clear b5
  rw [RF.out]
  go_wp2_with fail
  go_ret
  exact ⟨rfl, B5.out⟩
end Go.Proofs.Ytaaihkbpnpeimaa
