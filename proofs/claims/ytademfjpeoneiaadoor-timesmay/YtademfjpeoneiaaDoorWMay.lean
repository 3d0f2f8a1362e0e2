/- What the statement's function of TimesMay answers; no statement of the seat is proved here. -/
import Derived.Test.YtademfjpeoneiaaDoorLaidV
import Derived.Test.YtademfjpeoneiaaDoorPaF
namespace Go.Proofs.YtademfjpeoneiaaDoor
set_option linter.unusedVariables false
open Go.RowKit
/-- A value lies in a box. -/
structure Lies (W : World) (p : Nat) (k b : Int) (s : ByteArray) : Prop where
  lt : p < W.heap.size
  c0 : W.cell? ⟨p, 0, none⟩ = some (.int .u8 k)
  c1 : W.cell? ⟨p, 1, none⟩ = some (.int .u64 b)
  c2 : W.cell? ⟨p, 2, none⟩ = some (.string s)
theorem Lies.next {W w' : World} {p : Nat} {k b : Int} {s : ByteArray} (h : Lies W p k b s) (hb : Below W.heap.size W w') : Lies w' p k b s :=
  ⟨Nat.lt_of_lt_of_le h.lt hb.size, by rw [hb.cell (p := ⟨p, 0, none⟩) h.lt]; exact h.c0, by rw [hb.cell (p := ⟨p, 1, none⟩) h.lt]; exact h.c1, by rw [hb.cell (p := ⟨p, 2, none⟩) h.lt]; exact h.c2⟩
theorem Lies.alloc {W : World} {p : Nat} {k b : Int} {s : ByteArray} (h : Lies W p k b s) (o : Obj) : Lies (W.alloc o) p k b s := h.next ((Below.refl _ _).alloc (Nat.le_refl _) _)
theorem Lies.new (W : World) (k b : Int) (s : ByteArray) (t : TypeId) : Lies (W.alloc (.cells #[.int .u8 k, .int .u64 b, .string s] t)) W.heap.size k b s :=
  ⟨by simp, by simp, by simp, by simp⟩
section
variable (k : Int) (s : ByteArray) (w : World)
set_option maxRecDepth 100000 in
set_option maxHeartbeats 2000000 in
theorem May_law (hk : 0 ≤ k ∧ k < 256) (hs : s.size ≤ 140737488355328) (u : UT7 w) (hT : Tab w) : Calls Tryd.prog 3 #[.int .u8 k, .string s] w fun e w' => e = .returned (.bool true) ∧ Below w.heap.size w w' := by
  have P : Hid _ := Parse_of k s w hk hs u hT
  have U : Hid (∀ w1, Below w.heap.size w w1 → UT w1 ∧ Tab w1) := fun w1 h => ⟨(u.next h).ut, tab_next hT h⟩
  have MR : Hid (∀ b w, 0 ≤ b → b < 18446744073709551616 → may3 k b E0 = true → Calls Tryd.prog 6 #[V k b E0] w fun e w' => e = .returned (.bool true) ∧ Below w.heap.size w w') := fun b w h0 h1 m => by
    have := MayR_of k b E0 w h0 h1 hk (Nat.zero_le _)
    rwa [m] at this
  clear u hT
  go_enter Tryd.func3, Tryd.ntmps3
  go_wp2_with fail
  refine Calls.mono P.out ?_
  rintro e w1 ⟨hp, hb⟩
  have B1 : Hid (Below w.heap.size w w1) := hb
  clear hb
  have l0 : w.heap.size ≤ w1.heap.size := B1.out.size
  rcases hp with rfl | ⟨b, rfl, hb, mb⟩
  · have U1 : Hid (∀ o, UT (w1.alloc o) ∧ Tab (w1.alloc o)) := fun o => U.out _ (B1.out.alloc l0 o)
    go_wp2_with (go_at_call 5; refine (awake_of _ (U1.out _).1 (U1.out _).2).mono ?_; rintro e w4 ⟨rfl, hb4⟩)
    go_ret
    exact ⟨rfl, (B1.out.alloc l0 _).trans (hb4.mono (by simp; omega))⟩
  · have M : Hid _ := fun w => MR.out b w hb.1 hb.2 mb
    go_wp2_with fail
    refine (M.out _).mono ?_
    rintro e w2 ⟨rfl, hb2⟩
    have B2 : Hid (Below w.heap.size w w2) := (B1.out.alloc l0 _).trans (hb2.mono (by simp; omega))
    have U2 : Hid _ := U.out _ B2.out
    clear hb2
    go_wp2_with (go_at_call 5; refine (awake_of _ U2.out.1 U2.out.2).mono ?_; rintro e w4 ⟨rfl, hb4⟩)
    go_ret
    exact ⟨rfl, B2.out.trans (hb4.mono B2.out.size)⟩
end
end Go.Proofs.YtademfjpeoneiaaDoor
