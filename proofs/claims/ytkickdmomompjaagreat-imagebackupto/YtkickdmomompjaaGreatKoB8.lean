/- image: what the statements over files want; no statement of the seat is proved here. -/
import Derived.Test.YtkickdmomompjaaGreatKoB7
import Derived.Test.YtkickdmomompjaaGreatKoB3
import Derived.Test.YtkickdmomompjaaGreatKoA1
namespace Go.Proofs.YtkickdmomompjaaGreat
set_option linter.unusedVariables false
set_option linter.unusedSimpArgs false
open Go.RowKit
theorem slb_nil (a : Addr) (n cap : Nat) (w : World) : (binOp .eql 27 (.slice (some a) n cap) (.slice none 0 0)).run Tryz.prog w = .ok (.bool false) w := by kernel_rfl
theorem slb_nilT (w : World) : (binOp .eql 27 (.slice none 0 0) (.slice none 0 0)).run Tryz.prog w = .ok (.bool true) w := by kernel_rfl
theorem ownb_none (w : World) : (w.alloc (.cells #[] 5)).ownsRow w.heap.size 5 1 (.slice (some ⟨w.heap.size, 0, none⟩) 0 0) 0 [] :=
  ⟨rfl, .inr ⟨w.heap.size, 0, #[], rfl, Nat.le_refl _, heap_alloc_last w _, Nat.le_refl _, Nat.zero_le _, rfl, rfl⟩⟩
theorem Sb.cap {B : Nat} {l : List Nat} {x : Option Addr} {n c : Nat} {V : World} (h : Sb B l (.slice x n c) V) : l.length ≤ c := by
  have hn := h.len
  rcases h.2 with ⟨hv, h1⟩ | ⟨g, cap, cur, hv, hb, hg, hc, hm, hs, ht⟩
  · omega
  · cases hv; omega
theorem Sb.bysl {B : Nat} {l : List Nat} {x : Option Addr} {n c : Nat} {V : World} (h : Sb B l (.slice x n c) V) : BySl x l V := fun k b hb => by
  have hl := (List.getElem?_eq_some_iff.1 hb).1
  obtain ⟨a, ha, hs, hc⟩ := h.cell k b hb
  rcases h.2 with ⟨hv, h1⟩ | ⟨g, cap, cur, hv, _⟩
  · omega
  · cases hv
    cases ha
    rw [Addr.add_mid] at hc
    exact ⟨g, 0, rfl, hs, hc⟩
/-- The bytes of a slice, wherever it points. -/
theorem BySl.at {x : Option Addr} {l : List Nat} {w : World} (h : BySl x l w) (j b : Nat) (hj : l[j]? = some b) : ∃ a, x = some a ∧ a.block < w.heap.size ∧ w.cell? (a.add j) = some (.int .u8 (b : Int)) := by
  obtain ⟨kb, o, e, h1, h2⟩ := h j b hj
  exact ⟨⟨kb, o, none⟩, e, h1, by rw [Addr.add_mid]; exact h2⟩
theorem BySl.up {x : Option Addr} {l : List Nat} {w W : World} (h : BySl x l w) (hb : Below w.heap.size w W) : BySl x l W := fun k b hk => by
  obtain ⟨kb, o, e, h1, h2⟩ := h k b hk
  exact ⟨kb, o, e, Nat.lt_of_lt_of_le h1 hb.size, (hb.cell (p := ⟨kb, o + k, none⟩) h1).trans h2⟩
/-- The image without anything. -/
def im0 : ImR := ⟨⟨#[]⟩, [], [], []⟩
/-- What either Decode tells, as an image. -/
theorem DecZ.im {m : ImR} {f : Int} {lo : Nat} {w : World} {z : Value} (h : DecZ m f lo w z) : ∃ m' x1 c1 x2 c2 x3 c3, m' = (if f = 0 then m else im0) ∧ z = .agg #[.string m'.nm, .slice x1 m'.cs.length c1, .slice x2 m'.fs.length c2, .slice x3 m'.js.length c3] ∧ ImQ (fun b => b < w.heap.size) w m' x1 x2 x3 := by
  by_cases hf : f = 0
  · obtain ⟨x1, c1, x2, c2, x3, c3, e, q⟩ := h.2 hf
    exact ⟨m, x1, c1, x2, c2, x3, c3, by rw [if_pos hf], e, q.sub (fun b hb => hb.2)⟩
  · refine ⟨im0, none, 0, none, 0, none, 0, by rw [if_neg hf], h.1 hf, ?_⟩
    refine ⟨⟨?_, fun _ => rfl, fun a e => by cases e⟩, ⟨?_, fun _ => rfl, fun a e => by cases e⟩, ⟨?_, fun _ => rfl, fun a e => by cases e⟩⟩
    all_goals (show few 0; unfold few; omega)
theorem cellsD {V : World} {g : Nat} {a b c d : Value} {T : TypeId} {f : Nat × Nat} (h : V.heap[g]? = some (.cells #[a, b, c, d] T f)) : V.cell? ⟨g, 0, none⟩ = some a ∧ V.cell? ⟨g, 1, none⟩ = some b ∧ V.cell? ⟨g, 2, none⟩ = some c ∧ V.cell? ⟨g, 3, none⟩ = some d :=
  ⟨by simp [World.cell?, h], by simp [World.cell?, h], by simp [World.cell?, h], by simp [World.cell?, h]⟩
end Go.Proofs.YtkickdmomompjaaGreat
namespace Go.Proofs.YtkickdmomompjaaGreat
set_option linter.unusedVariables false
open Go.RowKit
set_option maxRecDepth 20000 in
set_option maxHeartbeats 4000000 in
theorem awake_of (w : World) : Calls Tryz.prog 6 #[] w fun e w' => e = .returned (.bool true) ∧ Below w.heap.size w w' := by
  go_enter Tryz.func6, Tryz.ntmps6
  go_wp2_with (go_at_call 4; refine (EncodeM_of _).mono ?_)
  first | (rintro e w1 ⟨⟨g, c, he, h0, h12⟩, hb1⟩) | (rintro e w1 g c he h0 h12 hb1) | (rintro e w1 ⟨g, c, he, h0, h12⟩ hb1)
  subst he
  have B1 : Hid (Below w.heap.size w w1) := hb1
  clear hb1
  go_wp2
  go_ret
  exact ⟨rfl, B1.out⟩
end Go.Proofs.YtkickdmomompjaaGreat
namespace Go.Proofs.YtkickdmomompjaaGreat
end Go.Proofs.YtkickdmomompjaaGreat
