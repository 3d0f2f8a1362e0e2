/- The walk of IlSames; no statement of the seat is proved here. -/
import Derived.Test.YteffdmjleihhdaaIlM
import Derived.Test.YteffdmjleihhdaaIlD
import Derived.Test.YteffdmjleihhdaaIlI
import Derived.Test.YteffdmjleihhdaaIlN
namespace Go.Proofs.Yteffdmjleihhdaa
set_option linter.unusedVariables false
open Go.RowKit
theorem smL_refl {α : Type} (f : α → α → Bool) : ∀ l : List α, (∀ (i : Nat) e, l[i]? = some e → f e e = true) → smL f l l = true
  | [], _ => rfl
  | a :: l, h => by
    have h0 := h 0 a rfl
    have := smL_refl f l fun i e he => h (i + 1) e (by simpa using he)
    simp [smL, h0, this]
theorem kd_refl' {S : Nat → Prop} {d : Nat} {w : World} {x : Option Addr} {l : List Ex} (h0 : x = none → l = []) (hk : ∀ b, x = some b → ∀ i e, l[i]? = some e → ExF S d w (b.add (i * 14)) e) (f : ∀ p e, ExF S d w p e → smE d e e = true) : smL (smE d) l l = true := by
  cases x with
  | none => rw [h0 rfl]; rfl
  | some b => exact smL_refl _ _ fun i e he => f _ _ (hk b rfl i e he)
theorem smE_refl {S : Nat → Prop} : ∀ (d : Nat) (w : World) (p : Addr) (e : Ex), ExF S d w p e → smE d e e = true
  | 0, _, _, _, h => h.elim
  | d + 1, w, p, .mk h ns l, ⟨_, x, c, y, c', _, _, _, _, h0, hk⟩ => by
    have := kd_refl' h0 hk fun p e q => smE_refl d w p e q
    simp [smE, hdS, this]
theorem kd_refl {S : Nat → Prop} {d : Nat} {w : World} {x : Option Addr} {l : List Ex} (h : KdF S d w x l) : smL (smE d) l l = true := kd_refl' h.2.1 h.2.2 fun p e q => smE_refl d w p e q
theorem il_refl {S : Nat → Prop} {d : Nat} {w : World} {x : Option Addr} {l : List Il} (h : IlL S d w x l) : smL (smI d) l l = true := by
  cases x with
  | none => rw [h.2.1 rfl]; rfl
  | some b =>
    refine smL_refl _ _ fun i t ht => ?_
    obtain ⟨_, x1, c1, x2, c2, x3, c3, x4, c4, _, hp⟩ := h.2.2 b rfl i t ht
    have q1 := kd_refl hp.1
    have q3 := kd_refl hp.2.2.1
    simp [smI, hdI, ilS, smL, smS, hdT, q1, q3]
set_option maxHeartbeats 2000000 in
theorem ils_walk (d : Nat) (hd : d + 1 ≤ 131072) (w : World) (x x' : Option Addr) (l l' : List Il) (c c' : Nat) (h : IlL (fun b => b < w.heap.size) d w x l) (h' : IlL (fun b => b < w.heap.size) d w x' l') :
    Calls Try.prog 3 #[.slice x l.length c, .slice x' l'.length c'] w fun e w' => e = .returned (.bool true) ∧ Below w.heap.size w w' := by
  have HA : Hid (IlL (fun b => b < w.heap.size) d w x l) := h
  have HB : Hid (IlL (fun b => b < w.heap.size) d w x' l') := h'
  have RF : Hid (smL (smI d) l l = true) := il_refl h
  have HD : Hid (d + 1 ≤ 131072) := hd
  clear h h' hd
  go_enter Try.func3, Try.ntmps3
  go_wp2_with fail
  refine (copied_of d w x l c HA.out).mono ?_
  rintro r w1 ⟨⟨y1, c1, rfl, h1⟩, b1⟩
  have H1 : Hid (IlL (Fresh w.heap.size w1.heap.size) d w1 y1 l) := h1
  have B1 : Hid (Below w.heap.size w w1) := b1
  clear h1 b1
  go_wp2_with fail
  refine (copied_of d w1 x' l' c' (HB.out.on B1.out)).mono ?_
  rintro r w2 ⟨⟨y2, c2, rfl, h2⟩, b2⟩
  have H2 : Hid (IlL (fun b => b < w2.heap.size) d w2 y2 l') := h2.sub fun b q => q.2
  have H1' : Hid (IlL (fun b => b < w2.heap.size) d w2 y1 l) := (H1.out.fr (fresh_fr b2 (Nat.le_refl _))).sub fun b q => Nat.lt_of_lt_of_le q.2 b2.size
  have B2 : Hid (Below w.heap.size w w2) := B1.out.trans (b2.mono B1.out.size)
  clear h2 b2
  go_wp2_with fail
  refine (SameI_of d HD.out w2 y1 y2 l l' c1 c2 H1'.out H2.out).mono ?_
  rintro r w3 ⟨rfl, b3⟩
  have B3 : Hid (Below w.heap.size w w3) := B2.out.trans (b3.mono B2.out.size)
  have M3 : Hid (Below w2.heap.size w2 w3) := b3
  clear b3
  go_wp2_with fail
  refine (sameDI d x x' l l' c c' w3 (HA.out.on B3.out) (HB.out.on B3.out)).mono ?_
  rintro r w4 ⟨rfl, b4⟩
  have B4 : Hid (Below w.heap.size w w4) := B3.out.trans (b4.mono B3.out.size)
  have M4 : Hid (Below w2.heap.size w2 w4) := M3.out.trans (b4.mono M3.out.size)
  clear b4
  generalize smL (smI d) l l' = r at *
  have er : (r == r) = true := by simp
  go_wp2_with fail
  refine (SameI_of d HD.out w4 y1 y1 l l c1 c1 (H1'.out.on M4.out) (H1'.out.on M4.out)).mono ?_
  rintro e w5 ⟨rfl, b5⟩
  have B5 : Hid (Below w.heap.size w w5) := B4.out.trans (b5.mono B4.out.size)
  have M5 : Hid (Below w2.heap.size w2 w5) := M4.out.trans (b5.mono M4.out.size)
  clear b5
  rw [RF.out]
  go_wp2_with fail
  refine (all_same d y1 x l c1 c w5 (H1'.out.on M5.out) (HA.out.on B5.out)).mono ?_
  rintro e w6 ⟨rfl, b6⟩
  have B6 : Hid (Below w.heap.size w w6) := B5.out.trans (b6.mono B5.out.size)
  have M6 : Hid (Below w2.heap.size w2 w6) := M5.out.trans (b6.mono M5.out.size)
  clear b6
  go_wp2_with fail
  refine (all_same d y2 x' l' c2 c' w6 (H2.out.on M6.out) (HB.out.on B6.out)).mono ?_
  rintro e w7 ⟨rfl, b7⟩
  have B7 : Hid (Below w.heap.size w w7) := B6.out.trans (b7.mono B6.out.size)
  clear b7
  go_wp2_with fail
  go_ret
  exact ⟨rfl, B7.out⟩
end Go.Proofs.Yteffdmjleihhdaa
