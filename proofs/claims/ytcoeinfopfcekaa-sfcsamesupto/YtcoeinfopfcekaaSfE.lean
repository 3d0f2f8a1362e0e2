/- sfc's sameness of transitions; no statement of the seat is proved here. -/
import Derived.Test.YtcoeinfopfcekaaSfD
import Derived.Test.YtcoeinfopfcekaaRgJ
import Derived.Test.YtcoeinfopfcekaaTrD
namespace Go.Proofs.Ytcoeinfopfcekaa
set_option linter.unusedVariables false
open Go.RowKit
theorem rows3 (w : World) (X Y Z : Obj) : Below w.heap.size w (((w.alloc X).alloc Y).alloc Z) ∧ (((w.alloc X).alloc Y).alloc Z).heap[w.heap.size + 1]? = some Y ∧ (((w.alloc X).alloc Y).alloc Z).heap[w.heap.size + 2]? = some Z ∧ (((w.alloc X).alloc Y).alloc Z).heap.size = w.heap.size + 3 := by
  refine ⟨(two_b w X Y).alloc (by simp; omega) Z, ?_, ?_, by simp⟩
  · have q := heap_alloc_last (w.alloc X) Y
    rw [show (w.alloc X).heap.size = w.heap.size + 1 by simp] at q
    exact (Below.heap_alloc _ _ _ (by simp)).trans q
  · have q := heap_alloc_last ((w.alloc X).alloc Y) Z
    rwa [show ((w.alloc X).alloc Y).heap.size = w.heap.size + 2 by simp] at q
set_option maxRecDepth 20000 in
set_option maxHeartbeats 4000000 in
theorem cond_of (d : Nat) (t : TnR) (x1 x2 x3 x4 : Option Addr) (c1 c2 c3 c4 : Nat) (w : World) (hq : TnQ (fun b => b < w.heap.size) d w t x1 x2 x3 x4) :
    Calls Try.prog 31 #[.agg (tnC t (.slice x1 t.fr.length c1) (.slice x2 t.to.length c2) (.slice x3 t.ek.length c3) (.slice x4 t.en.length c4)).toArray] w fun e w' => (∃ g, e = .returned (.slice (some ⟨g, 0, none⟩) 1 1) ∧ StL (fun b => b < w'.heap.size) (d + 2) w' (some ⟨g, 0, none⟩) [cnd 0 t]) ∧ Below w.heap.size w w' := by
  have R3 : Hid (∀ X Y Z : Obj, Below w.heap.size w (((w.alloc X).alloc Y).alloc Z) ∧ (((w.alloc X).alloc Y).alloc Z).heap[w.heap.size + 1]? = some Y ∧ (((w.alloc X).alloc Y).alloc Z).heap[w.heap.size + 2]? = some Z ∧ (((w.alloc X).alloc Y).alloc Z).heap.size = w.heap.size + 3) := rows3 w
  have HQ : Hid _ := hq
  clear hq
  show Calls _ _ #[.agg #[.int .i64 t.pl, .string t.nm, .slice x1 t.fr.length c1, .slice x2 t.to.length c2, .int .i64 t.eh.op, .int .i64 t.eh.pl, .string t.eh.nm, .string t.eh.fd, .int .u8 t.eh.vk, .int .u64 t.eh.vb, .string t.eh.vs, .slice x3 t.ek.length c3, .slice x4 t.en.length c4, .int .u8 t.eh.kd, .int .i64 t.eh.ar, .int .i64 t.eh.rf, .int .i64 t.eh.fr, .int .i64 t.eh.up]] _ _
  go_enter Try.func31, Try.ntmps31
  go_wp2
  go_ret
  obtain ⟨b0, b1, b2, b3⟩ := R3.out _ _ _
  refine ⟨⟨w.heap.size + 2, ?_, cnd_rows (g1 := w.heap.size + 1) (by rw [b3]; omega) (by rw [b3]; omega) b1 b2 ((HQ.out.2.2.1.fr (old_fr b0)).sub (fun b q => Nat.lt_of_lt_of_le q b0.size)) ((HQ.out.2.2.2.1.fr (old_fr b0)).sub (fun b q => Nat.lt_of_lt_of_le q b0.size)) HQ.out.2.2.2.2⟩, b0⟩
  first | rfl | simp
end Go.Proofs.Ytcoeinfopfcekaa
