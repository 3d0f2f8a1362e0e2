/- sfc's sameness of transitions, in its ways; no statement of the seat is proved here. -/
import Derived.Test.YtcoeinfopfcekaaSfE
import Derived.Test.YtcoeinfopfcekaaMkR
import Derived.Deep.MidRow
namespace Go.Proofs.Ytcoeinfopfcekaa
set_option linter.unusedVariables false
set_option linter.unusedSimpArgs false
open Go.RowKit
theorem row_range {V : World} {g : Nat} {cs : Array Value} {T : TypeId} {f : Nat × Nat} (h : V.heap[g]? = some (.cells cs T f)) : V.rangeAt g 0 cs.toList := fun j v hv => by
  rw [cell_of_row V g (0 + j) cs T f h, Nat.zero_add]
  simpa using hv
theorem blk_in2' {w : World} {k : Nat} {x : Obj} (h : w.heap[k]? = some x) : k < w.heap.size := (Array.getElem?_eq_some_iff.1 h).1
set_option maxRecDepth 20000 in
set_option maxHeartbeats 8000000 in
theorem tn_0 (t u : TnR) (x1 x2 x3 x4 y1 y2 y3 y4 : Option Addr) (x1c x2c x3c x4c y1c y2c y3c y4c : Nat) (w : World) (f1 : (t.nm.toList == u.nm.toList) = false) :
    Calls Try.prog 15 #[.agg (tnC t (.slice x1 t.fr.length x1c) (.slice x2 t.to.length x2c) (.slice x3 t.ek.length x3c) (.slice x4 t.en.length x4c)).toArray, .agg (tnC u (.slice y1 u.fr.length y1c) (.slice y2 u.to.length y2c) (.slice y3 u.ek.length y3c) (.slice y4 u.en.length y4c)).toArray] w fun e w' => e = .returned (.bool false) ∧ Below w.heap.size w w' := by
  obtain ⟨W, eW⟩ : ∃ W, W = (w.alloc (.cells #[.int .i64 t.pl, .string t.nm, .slice x1 t.fr.length x1c, .slice x2 t.to.length x2c, .int .i64 t.eh.op, .int .i64 t.eh.pl, .string t.eh.nm, .string t.eh.fd, .int .u8 t.eh.vk, .int .u64 t.eh.vb, .string t.eh.vs, .slice x3 t.ek.length x3c, .slice x4 t.en.length x4c, .int .u8 t.eh.kd, .int .i64 t.eh.ar, .int .i64 t.eh.rf, .int .i64 t.eh.fr, .int .i64 t.eh.up] 44 (0, 0))).alloc (.cells #[.int .i64 u.pl, .string u.nm, .slice y1 u.fr.length y1c, .slice y2 u.to.length y2c, .int .i64 u.eh.op, .int .i64 u.eh.pl, .string u.eh.nm, .string u.eh.fd, .int .u8 u.eh.vk, .int .u64 u.eh.vb, .string u.eh.vs, .slice y3 u.ek.length y3c, .slice y4 u.en.length y4c, .int .u8 u.eh.kd, .int .i64 u.eh.ar, .int .i64 u.eh.rf, .int .i64 u.eh.fr, .int .i64 u.eh.up] 44 (0, 0)) := ⟨_, rfl⟩
  obtain ⟨gx, egx⟩ : ∃ n, n = w.heap.size := ⟨_, rfl⟩
  have BW : Hid (Below w.heap.size w W) := by rw [eW]; exact two_b w _ _
  have OX : Hid (W.heap[gx]? = some (.cells #[.int .i64 t.pl, .string t.nm, .slice x1 t.fr.length x1c, .slice x2 t.to.length x2c, .int .i64 t.eh.op, .int .i64 t.eh.pl, .string t.eh.nm, .string t.eh.fd, .int .u8 t.eh.vk, .int .u64 t.eh.vb, .string t.eh.vs, .slice x3 t.ek.length x3c, .slice x4 t.en.length x4c, .int .u8 t.eh.kd, .int .i64 t.eh.ar, .int .i64 t.eh.rf, .int .i64 t.eh.fr, .int .i64 t.eh.up] 44 (0, 0))) := by rw [eW, egx]; exact (Below.heap_alloc _ _ _ (by simp)).trans (heap_alloc_last _ _)
  have OY : Hid (W.heap[gx + 1]? = some (.cells #[.int .i64 u.pl, .string u.nm, .slice y1 u.fr.length y1c, .slice y2 u.to.length y2c, .int .i64 u.eh.op, .int .i64 u.eh.pl, .string u.eh.nm, .string u.eh.fd, .int .u8 u.eh.vk, .int .u64 u.eh.vb, .string u.eh.vs, .slice y3 u.ek.length y3c, .slice y4 u.en.length y4c, .int .u8 u.eh.kd, .int .i64 u.eh.ar, .int .i64 u.eh.rf, .int .i64 u.eh.fr, .int .i64 u.eh.up] 44 (0, 0))) := by
    have q := heap_alloc_last (w.alloc (.cells #[.int .i64 t.pl, .string t.nm, .slice x1 t.fr.length x1c, .slice x2 t.to.length x2c, .int .i64 t.eh.op, .int .i64 t.eh.pl, .string t.eh.nm, .string t.eh.fd, .int .u8 t.eh.vk, .int .u64 t.eh.vb, .string t.eh.vs, .slice x3 t.ek.length x3c, .slice x4 t.en.length x4c, .int .u8 t.eh.kd, .int .i64 t.eh.ar, .int .i64 t.eh.rf, .int .i64 t.eh.fr, .int .i64 t.eh.up] 44 (0, 0))) (.cells #[.int .i64 u.pl, .string u.nm, .slice y1 u.fr.length y1c, .slice y2 u.to.length y2c, .int .i64 u.eh.op, .int .i64 u.eh.pl, .string u.eh.nm, .string u.eh.fd, .int .u8 u.eh.vk, .int .u64 u.eh.vb, .string u.eh.vs, .slice y3 u.ek.length y3c, .slice y4 u.en.length y4c, .int .u8 u.eh.kd, .int .i64 u.eh.ar, .int .i64 u.eh.rf, .int .i64 u.eh.fr, .int .i64 u.eh.up] 44 (0, 0))
    rw [show (w.alloc (.cells #[.int .i64 t.pl, .string t.nm, .slice x1 t.fr.length x1c, .slice x2 t.to.length x2c, .int .i64 t.eh.op, .int .i64 t.eh.pl, .string t.eh.nm, .string t.eh.fd, .int .u8 t.eh.vk, .int .u64 t.eh.vb, .string t.eh.vs, .slice x3 t.ek.length x3c, .slice x4 t.en.length x4c, .int .u8 t.eh.kd, .int .i64 t.eh.ar, .int .i64 t.eh.rf, .int .i64 t.eh.fr, .int .i64 t.eh.up] 44 (0, 0))).heap.size = w.heap.size + 1 by simp] at q
    rw [eW, egx]; exact q
  show Calls _ _ #[.agg #[.int .i64 t.pl, .string t.nm, .slice x1 t.fr.length x1c, .slice x2 t.to.length x2c, .int .i64 t.eh.op, .int .i64 t.eh.pl, .string t.eh.nm, .string t.eh.fd, .int .u8 t.eh.vk, .int .u64 t.eh.vb, .string t.eh.vs, .slice x3 t.ek.length x3c, .slice x4 t.en.length x4c, .int .u8 t.eh.kd, .int .i64 t.eh.ar, .int .i64 t.eh.rf, .int .i64 t.eh.fr, .int .i64 t.eh.up], .agg #[.int .i64 u.pl, .string u.nm, .slice y1 u.fr.length y1c, .slice y2 u.to.length y2c, .int .i64 u.eh.op, .int .i64 u.eh.pl, .string u.eh.nm, .string u.eh.fd, .int .u8 u.eh.vk, .int .u64 u.eh.vb, .string u.eh.vs, .slice y3 u.ek.length y3c, .slice y4 u.en.length y4c, .int .u8 u.eh.kd, .int .i64 u.eh.ar, .int .i64 u.eh.rf, .int .i64 u.eh.fr, .int .i64 u.eh.up]] _ _
  go_enter Try.func15, Try.ntmps15
  go_upto_region 1 with fail
  try rw [← eW]
  try rw [← egx]
  clear eW egx
  have zx : gx < W.heap.size := blk_in2' OX.out
  have zy : gx + 1 < W.heap.size := blk_in2' OY.out
  have p0 : ∀ z : Sub W, z.w.cell? ⟨gx, 1, none⟩ = some (.string t.nm) := fun z => (z.h.cell (p := ⟨gx, 1, none⟩) zx).trans (by simp [World.cell?, OX.out])
  have p1 : ∀ z : Sub W, z.w.cell? ⟨gx + 1, 1, none⟩ = some (.string u.nm) := fun z => (z.h.cell (p := ⟨gx + 1, 1, none⟩) zy).trans (by simp [World.cell?, OY.out])
  refine wp_region_sub2 (by kernel_rfl) (by kernel_rfl) ?_
  intro cx
  clear cx
  repeat (first | go_big_quiet_skip | (go_big_quiet_want; go_big_quiet_op; first | go_big_quiet_on | (refine ⟨_, fun _ => rfl, ?_⟩; go_big_quiet_on)))
  refine wpQuiet_nil ?_
  rintro _ ⟨z, rfl⟩
  have B5 : Hid (Below w.heap.size w z.w) := BW.out.trans (z.h.mono BW.out.size)
  generalize z.w = w5 at *
  go_wp2
  go_ret
  exact ⟨by first | rfl | simp, B5.out⟩
set_option maxRecDepth 20000 in
set_option maxHeartbeats 8000000 in
theorem tn_1 (t u : TnR) (x1 x2 x3 x4 y1 y2 y3 y4 : Option Addr) (x1c x2c x3c x4c y1c y2c y3c y4c : Nat) (w : World) (f1 : (t.nm.toList == u.nm.toList) = true) (E1 : ∀ W, Below w.heap.size w W → Calls Try.prog 23 #[.slice x1 t.fr.length x1c, .slice y1 u.fr.length y1c] W fun e w' => e = .returned (.bool false) ∧ Below W.heap.size W w') :
    Calls Try.prog 15 #[.agg (tnC t (.slice x1 t.fr.length x1c) (.slice x2 t.to.length x2c) (.slice x3 t.ek.length x3c) (.slice x4 t.en.length x4c)).toArray, .agg (tnC u (.slice y1 u.fr.length y1c) (.slice y2 u.to.length y2c) (.slice y3 u.ek.length y3c) (.slice y4 u.en.length y4c)).toArray] w fun e w' => e = .returned (.bool false) ∧ Below w.heap.size w w' := by
  obtain ⟨W, eW⟩ : ∃ W, W = (w.alloc (.cells #[.int .i64 t.pl, .string t.nm, .slice x1 t.fr.length x1c, .slice x2 t.to.length x2c, .int .i64 t.eh.op, .int .i64 t.eh.pl, .string t.eh.nm, .string t.eh.fd, .int .u8 t.eh.vk, .int .u64 t.eh.vb, .string t.eh.vs, .slice x3 t.ek.length x3c, .slice x4 t.en.length x4c, .int .u8 t.eh.kd, .int .i64 t.eh.ar, .int .i64 t.eh.rf, .int .i64 t.eh.fr, .int .i64 t.eh.up] 44 (0, 0))).alloc (.cells #[.int .i64 u.pl, .string u.nm, .slice y1 u.fr.length y1c, .slice y2 u.to.length y2c, .int .i64 u.eh.op, .int .i64 u.eh.pl, .string u.eh.nm, .string u.eh.fd, .int .u8 u.eh.vk, .int .u64 u.eh.vb, .string u.eh.vs, .slice y3 u.ek.length y3c, .slice y4 u.en.length y4c, .int .u8 u.eh.kd, .int .i64 u.eh.ar, .int .i64 u.eh.rf, .int .i64 u.eh.fr, .int .i64 u.eh.up] 44 (0, 0)) := ⟨_, rfl⟩
  obtain ⟨gx, egx⟩ : ∃ n, n = w.heap.size := ⟨_, rfl⟩
  have BW : Hid (Below w.heap.size w W) := by rw [eW]; exact two_b w _ _
  have OX : Hid (W.heap[gx]? = some (.cells #[.int .i64 t.pl, .string t.nm, .slice x1 t.fr.length x1c, .slice x2 t.to.length x2c, .int .i64 t.eh.op, .int .i64 t.eh.pl, .string t.eh.nm, .string t.eh.fd, .int .u8 t.eh.vk, .int .u64 t.eh.vb, .string t.eh.vs, .slice x3 t.ek.length x3c, .slice x4 t.en.length x4c, .int .u8 t.eh.kd, .int .i64 t.eh.ar, .int .i64 t.eh.rf, .int .i64 t.eh.fr, .int .i64 t.eh.up] 44 (0, 0))) := by rw [eW, egx]; exact (Below.heap_alloc _ _ _ (by simp)).trans (heap_alloc_last _ _)
  have OY : Hid (W.heap[gx + 1]? = some (.cells #[.int .i64 u.pl, .string u.nm, .slice y1 u.fr.length y1c, .slice y2 u.to.length y2c, .int .i64 u.eh.op, .int .i64 u.eh.pl, .string u.eh.nm, .string u.eh.fd, .int .u8 u.eh.vk, .int .u64 u.eh.vb, .string u.eh.vs, .slice y3 u.ek.length y3c, .slice y4 u.en.length y4c, .int .u8 u.eh.kd, .int .i64 u.eh.ar, .int .i64 u.eh.rf, .int .i64 u.eh.fr, .int .i64 u.eh.up] 44 (0, 0))) := by
    have q := heap_alloc_last (w.alloc (.cells #[.int .i64 t.pl, .string t.nm, .slice x1 t.fr.length x1c, .slice x2 t.to.length x2c, .int .i64 t.eh.op, .int .i64 t.eh.pl, .string t.eh.nm, .string t.eh.fd, .int .u8 t.eh.vk, .int .u64 t.eh.vb, .string t.eh.vs, .slice x3 t.ek.length x3c, .slice x4 t.en.length x4c, .int .u8 t.eh.kd, .int .i64 t.eh.ar, .int .i64 t.eh.rf, .int .i64 t.eh.fr, .int .i64 t.eh.up] 44 (0, 0))) (.cells #[.int .i64 u.pl, .string u.nm, .slice y1 u.fr.length y1c, .slice y2 u.to.length y2c, .int .i64 u.eh.op, .int .i64 u.eh.pl, .string u.eh.nm, .string u.eh.fd, .int .u8 u.eh.vk, .int .u64 u.eh.vb, .string u.eh.vs, .slice y3 u.ek.length y3c, .slice y4 u.en.length y4c, .int .u8 u.eh.kd, .int .i64 u.eh.ar, .int .i64 u.eh.rf, .int .i64 u.eh.fr, .int .i64 u.eh.up] 44 (0, 0))
    rw [show (w.alloc (.cells #[.int .i64 t.pl, .string t.nm, .slice x1 t.fr.length x1c, .slice x2 t.to.length x2c, .int .i64 t.eh.op, .int .i64 t.eh.pl, .string t.eh.nm, .string t.eh.fd, .int .u8 t.eh.vk, .int .u64 t.eh.vb, .string t.eh.vs, .slice x3 t.ek.length x3c, .slice x4 t.en.length x4c, .int .u8 t.eh.kd, .int .i64 t.eh.ar, .int .i64 t.eh.rf, .int .i64 t.eh.fr, .int .i64 t.eh.up] 44 (0, 0))).heap.size = w.heap.size + 1 by simp] at q
    rw [eW, egx]; exact q
  have H1 : Hid _ := E1
  clear E1
  show Calls _ _ #[.agg #[.int .i64 t.pl, .string t.nm, .slice x1 t.fr.length x1c, .slice x2 t.to.length x2c, .int .i64 t.eh.op, .int .i64 t.eh.pl, .string t.eh.nm, .string t.eh.fd, .int .u8 t.eh.vk, .int .u64 t.eh.vb, .string t.eh.vs, .slice x3 t.ek.length x3c, .slice x4 t.en.length x4c, .int .u8 t.eh.kd, .int .i64 t.eh.ar, .int .i64 t.eh.rf, .int .i64 t.eh.fr, .int .i64 t.eh.up], .agg #[.int .i64 u.pl, .string u.nm, .slice y1 u.fr.length y1c, .slice y2 u.to.length y2c, .int .i64 u.eh.op, .int .i64 u.eh.pl, .string u.eh.nm, .string u.eh.fd, .int .u8 u.eh.vk, .int .u64 u.eh.vb, .string u.eh.vs, .slice y3 u.ek.length y3c, .slice y4 u.en.length y4c, .int .u8 u.eh.kd, .int .i64 u.eh.ar, .int .i64 u.eh.rf, .int .i64 u.eh.fr, .int .i64 u.eh.up]] _ _
  go_enter Try.func15, Try.ntmps15
  go_upto_region 1 with fail
  try rw [← eW]
  try rw [← egx]
  clear eW egx
  have zx : gx < W.heap.size := blk_in2' OX.out
  have zy : gx + 1 < W.heap.size := blk_in2' OY.out
  have p0 : ∀ z : Sub W, z.w.cell? ⟨gx, 1, none⟩ = some (.string t.nm) := fun z => (z.h.cell (p := ⟨gx, 1, none⟩) zx).trans (by simp [World.cell?, OX.out])
  have p1 : ∀ z : Sub W, z.w.cell? ⟨gx, 2, none⟩ = some (.slice x1 t.fr.length x1c) := fun z => (z.h.cell (p := ⟨gx, 2, none⟩) zx).trans (by simp [World.cell?, OX.out])
  have p2 : ∀ z : Sub W, z.w.cell? ⟨gx + 1, 1, none⟩ = some (.string u.nm) := fun z => (z.h.cell (p := ⟨gx + 1, 1, none⟩) zy).trans (by simp [World.cell?, OY.out])
  have p3 : ∀ z : Sub W, z.w.cell? ⟨gx + 1, 2, none⟩ = some (.slice y1 u.fr.length y1c) := fun z => (z.h.cell (p := ⟨gx + 1, 2, none⟩) zy).trans (by simp [World.cell?, OY.out])
  have CALL : Hid (∀ z : Sub W, Calls Try.prog 23 #[.slice x1 t.fr.length x1c, .slice y1 u.fr.length y1c] z.w fun e w' => e = .returned (.bool false) ∧ Below z.w.heap.size z.w w') := fun z => H1.out _ (BW.out.trans (z.h.mono BW.out.size))
  refine wp_region_sub2 (by kernel_rfl) (by kernel_rfl) ?_
  intro cx
  clear cx
  repeat (first | go_big_quiet_skip | (go_big_quiet_want; go_big_quiet_op; first | go_big_quiet_on | (refine ⟨_, fun _ => rfl, ?_⟩; go_big_quiet_on) | go_big_quiet_call (first | (go_at_call 23; exact calls_sub (CALL.out _)))))
  refine wpQuiet_nil ?_
  rintro _ ⟨z, rfl⟩
  have B5 : Hid (Below w.heap.size w z.w) := BW.out.trans (z.h.mono BW.out.size)
  generalize z.w = w5 at *
  go_wp2
  go_ret
  exact ⟨by first | rfl | simp, B5.out⟩
set_option maxRecDepth 20000 in
set_option maxHeartbeats 8000000 in
theorem tn_2 (t u : TnR) (x1 x2 x3 x4 y1 y2 y3 y4 : Option Addr) (x1c x2c x3c x4c y1c y2c y3c y4c : Nat) (w : World) (f1 : (t.nm.toList == u.nm.toList) = true) (E1 : ∀ W, Below w.heap.size w W → Calls Try.prog 23 #[.slice x1 t.fr.length x1c, .slice y1 u.fr.length y1c] W fun e w' => e = .returned (.bool true) ∧ Below W.heap.size W w') (E2 : ∀ W, Below w.heap.size w W → Calls Try.prog 23 #[.slice x2 t.to.length x2c, .slice y2 u.to.length y2c] W fun e w' => e = .returned (.bool false) ∧ Below W.heap.size W w') :
    Calls Try.prog 15 #[.agg (tnC t (.slice x1 t.fr.length x1c) (.slice x2 t.to.length x2c) (.slice x3 t.ek.length x3c) (.slice x4 t.en.length x4c)).toArray, .agg (tnC u (.slice y1 u.fr.length y1c) (.slice y2 u.to.length y2c) (.slice y3 u.ek.length y3c) (.slice y4 u.en.length y4c)).toArray] w fun e w' => e = .returned (.bool false) ∧ Below w.heap.size w w' := by
  obtain ⟨W, eW⟩ : ∃ W, W = (w.alloc (.cells #[.int .i64 t.pl, .string t.nm, .slice x1 t.fr.length x1c, .slice x2 t.to.length x2c, .int .i64 t.eh.op, .int .i64 t.eh.pl, .string t.eh.nm, .string t.eh.fd, .int .u8 t.eh.vk, .int .u64 t.eh.vb, .string t.eh.vs, .slice x3 t.ek.length x3c, .slice x4 t.en.length x4c, .int .u8 t.eh.kd, .int .i64 t.eh.ar, .int .i64 t.eh.rf, .int .i64 t.eh.fr, .int .i64 t.eh.up] 44 (0, 0))).alloc (.cells #[.int .i64 u.pl, .string u.nm, .slice y1 u.fr.length y1c, .slice y2 u.to.length y2c, .int .i64 u.eh.op, .int .i64 u.eh.pl, .string u.eh.nm, .string u.eh.fd, .int .u8 u.eh.vk, .int .u64 u.eh.vb, .string u.eh.vs, .slice y3 u.ek.length y3c, .slice y4 u.en.length y4c, .int .u8 u.eh.kd, .int .i64 u.eh.ar, .int .i64 u.eh.rf, .int .i64 u.eh.fr, .int .i64 u.eh.up] 44 (0, 0)) := ⟨_, rfl⟩
  obtain ⟨gx, egx⟩ : ∃ n, n = w.heap.size := ⟨_, rfl⟩
  have BW : Hid (Below w.heap.size w W) := by rw [eW]; exact two_b w _ _
  have OX : Hid (W.heap[gx]? = some (.cells #[.int .i64 t.pl, .string t.nm, .slice x1 t.fr.length x1c, .slice x2 t.to.length x2c, .int .i64 t.eh.op, .int .i64 t.eh.pl, .string t.eh.nm, .string t.eh.fd, .int .u8 t.eh.vk, .int .u64 t.eh.vb, .string t.eh.vs, .slice x3 t.ek.length x3c, .slice x4 t.en.length x4c, .int .u8 t.eh.kd, .int .i64 t.eh.ar, .int .i64 t.eh.rf, .int .i64 t.eh.fr, .int .i64 t.eh.up] 44 (0, 0))) := by rw [eW, egx]; exact (Below.heap_alloc _ _ _ (by simp)).trans (heap_alloc_last _ _)
  have OY : Hid (W.heap[gx + 1]? = some (.cells #[.int .i64 u.pl, .string u.nm, .slice y1 u.fr.length y1c, .slice y2 u.to.length y2c, .int .i64 u.eh.op, .int .i64 u.eh.pl, .string u.eh.nm, .string u.eh.fd, .int .u8 u.eh.vk, .int .u64 u.eh.vb, .string u.eh.vs, .slice y3 u.ek.length y3c, .slice y4 u.en.length y4c, .int .u8 u.eh.kd, .int .i64 u.eh.ar, .int .i64 u.eh.rf, .int .i64 u.eh.fr, .int .i64 u.eh.up] 44 (0, 0))) := by
    have q := heap_alloc_last (w.alloc (.cells #[.int .i64 t.pl, .string t.nm, .slice x1 t.fr.length x1c, .slice x2 t.to.length x2c, .int .i64 t.eh.op, .int .i64 t.eh.pl, .string t.eh.nm, .string t.eh.fd, .int .u8 t.eh.vk, .int .u64 t.eh.vb, .string t.eh.vs, .slice x3 t.ek.length x3c, .slice x4 t.en.length x4c, .int .u8 t.eh.kd, .int .i64 t.eh.ar, .int .i64 t.eh.rf, .int .i64 t.eh.fr, .int .i64 t.eh.up] 44 (0, 0))) (.cells #[.int .i64 u.pl, .string u.nm, .slice y1 u.fr.length y1c, .slice y2 u.to.length y2c, .int .i64 u.eh.op, .int .i64 u.eh.pl, .string u.eh.nm, .string u.eh.fd, .int .u8 u.eh.vk, .int .u64 u.eh.vb, .string u.eh.vs, .slice y3 u.ek.length y3c, .slice y4 u.en.length y4c, .int .u8 u.eh.kd, .int .i64 u.eh.ar, .int .i64 u.eh.rf, .int .i64 u.eh.fr, .int .i64 u.eh.up] 44 (0, 0))
    rw [show (w.alloc (.cells #[.int .i64 t.pl, .string t.nm, .slice x1 t.fr.length x1c, .slice x2 t.to.length x2c, .int .i64 t.eh.op, .int .i64 t.eh.pl, .string t.eh.nm, .string t.eh.fd, .int .u8 t.eh.vk, .int .u64 t.eh.vb, .string t.eh.vs, .slice x3 t.ek.length x3c, .slice x4 t.en.length x4c, .int .u8 t.eh.kd, .int .i64 t.eh.ar, .int .i64 t.eh.rf, .int .i64 t.eh.fr, .int .i64 t.eh.up] 44 (0, 0))).heap.size = w.heap.size + 1 by simp] at q
    rw [eW, egx]; exact q
  have H1 : Hid _ := E1
  have H2 : Hid _ := E2
  clear E1 E2
  show Calls _ _ #[.agg #[.int .i64 t.pl, .string t.nm, .slice x1 t.fr.length x1c, .slice x2 t.to.length x2c, .int .i64 t.eh.op, .int .i64 t.eh.pl, .string t.eh.nm, .string t.eh.fd, .int .u8 t.eh.vk, .int .u64 t.eh.vb, .string t.eh.vs, .slice x3 t.ek.length x3c, .slice x4 t.en.length x4c, .int .u8 t.eh.kd, .int .i64 t.eh.ar, .int .i64 t.eh.rf, .int .i64 t.eh.fr, .int .i64 t.eh.up], .agg #[.int .i64 u.pl, .string u.nm, .slice y1 u.fr.length y1c, .slice y2 u.to.length y2c, .int .i64 u.eh.op, .int .i64 u.eh.pl, .string u.eh.nm, .string u.eh.fd, .int .u8 u.eh.vk, .int .u64 u.eh.vb, .string u.eh.vs, .slice y3 u.ek.length y3c, .slice y4 u.en.length y4c, .int .u8 u.eh.kd, .int .i64 u.eh.ar, .int .i64 u.eh.rf, .int .i64 u.eh.fr, .int .i64 u.eh.up]] _ _
  go_enter Try.func15, Try.ntmps15
  go_upto_region 1 with fail
  try rw [← eW]
  try rw [← egx]
  clear eW egx
  have zx : gx < W.heap.size := blk_in2' OX.out
  have zy : gx + 1 < W.heap.size := blk_in2' OY.out
  have p0 : ∀ z : Sub W, z.w.cell? ⟨gx, 1, none⟩ = some (.string t.nm) := fun z => (z.h.cell (p := ⟨gx, 1, none⟩) zx).trans (by simp [World.cell?, OX.out])
  have p1 : ∀ z : Sub W, z.w.cell? ⟨gx, 2, none⟩ = some (.slice x1 t.fr.length x1c) := fun z => (z.h.cell (p := ⟨gx, 2, none⟩) zx).trans (by simp [World.cell?, OX.out])
  have p2 : ∀ z : Sub W, z.w.cell? ⟨gx, 3, none⟩ = some (.slice x2 t.to.length x2c) := fun z => (z.h.cell (p := ⟨gx, 3, none⟩) zx).trans (by simp [World.cell?, OX.out])
  have p3 : ∀ z : Sub W, z.w.cell? ⟨gx + 1, 1, none⟩ = some (.string u.nm) := fun z => (z.h.cell (p := ⟨gx + 1, 1, none⟩) zy).trans (by simp [World.cell?, OY.out])
  have p4 : ∀ z : Sub W, z.w.cell? ⟨gx + 1, 2, none⟩ = some (.slice y1 u.fr.length y1c) := fun z => (z.h.cell (p := ⟨gx + 1, 2, none⟩) zy).trans (by simp [World.cell?, OY.out])
  have p5 : ∀ z : Sub W, z.w.cell? ⟨gx + 1, 3, none⟩ = some (.slice y2 u.to.length y2c) := fun z => (z.h.cell (p := ⟨gx + 1, 3, none⟩) zy).trans (by simp [World.cell?, OY.out])
  have CALL : Hid (∀ z : Sub W, Calls Try.prog 23 #[.slice x1 t.fr.length x1c, .slice y1 u.fr.length y1c] z.w fun e w' => e = .returned (.bool true) ∧ Below z.w.heap.size z.w w') := fun z => H1.out _ (BW.out.trans (z.h.mono BW.out.size))
  have CALL2 : Hid (∀ z : Sub W, Calls Try.prog 23 #[.slice x2 t.to.length x2c, .slice y2 u.to.length y2c] z.w fun e w' => e = .returned (.bool false) ∧ Below z.w.heap.size z.w w') := fun z => H2.out _ (BW.out.trans (z.h.mono BW.out.size))
  refine wp_region_sub2 (by kernel_rfl) (by kernel_rfl) ?_
  intro cx
  clear cx
  repeat (first | go_big_quiet_skip | (go_big_quiet_want; go_big_quiet_op; first | go_big_quiet_on | (refine ⟨_, fun _ => rfl, ?_⟩; go_big_quiet_on) | go_big_quiet_call (first | (go_at_call 23; first | with_reducible exact calls_sub (CALL.out _) | with_reducible exact calls_sub (CALL2.out _)))))
  refine wpQuiet_nil ?_
  rintro _ ⟨z, rfl⟩
  have B5 : Hid (Below w.heap.size w z.w) := BW.out.trans (z.h.mono BW.out.size)
  generalize z.w = w5 at *
  go_wp2
  go_ret
  exact ⟨by first | rfl | simp, B5.out⟩
set_option maxRecDepth 20000 in
set_option maxHeartbeats 8000000 in
theorem tn_3 (d : Nat) (t u : TnR) (x1 x2 x3 x4 y1 y2 y3 y4 : Option Addr) (x1c x2c x3c x4c y1c y2c y3c y4c : Nat) (w : World) (r : Bool) (f1 : (t.nm.toList == u.nm.toList) = true) (E1 : ∀ W, Below w.heap.size w W → Calls Try.prog 23 #[.slice x1 t.fr.length x1c, .slice y1 u.fr.length y1c] W fun e w' => e = .returned (.bool true) ∧ Below W.heap.size W w') (E2 : ∀ W, Below w.heap.size w W → Calls Try.prog 23 #[.slice x2 t.to.length x2c, .slice y2 u.to.length y2c] W fun e w' => e = .returned (.bool true) ∧ Below W.heap.size W w')
    (C1 : ∀ W, Below w.heap.size w W → Calls Try.prog 31 #[.agg (tnC t (.slice x1 t.fr.length x1c) (.slice x2 t.to.length x2c) (.slice x3 t.ek.length x3c) (.slice x4 t.en.length x4c)).toArray] W fun e w' => (∃ g, e = .returned (.slice (some ⟨g, 0, none⟩) 1 1) ∧ StL (fun b => b < w'.heap.size) (d + 2) w' (some ⟨g, 0, none⟩) [cnd 0 t]) ∧ Below W.heap.size W w')
    (C2 : ∀ W, Below w.heap.size w W → Calls Try.prog 31 #[.agg (tnC u (.slice y1 u.fr.length y1c) (.slice y2 u.to.length y2c) (.slice y3 u.ek.length y3c) (.slice y4 u.en.length y4c)).toArray] W fun e w' => (∃ g, e = .returned (.slice (some ⟨g, 0, none⟩) 1 1) ∧ StL (fun b => b < w'.heap.size) (d + 2) w' (some ⟨g, 0, none⟩) [cnd 0 u]) ∧ Below W.heap.size W w')
    (SS : ∀ W g g', StL (fun b => b < W.heap.size) (d + 2) W (some ⟨g, 0, none⟩) [cnd 0 t] → StL (fun b => b < W.heap.size) (d + 2) W (some ⟨g', 0, none⟩) [cnd 0 u] → Calls Try.prog 30 #[.slice (some ⟨g, 0, none⟩) 1 1, .slice (some ⟨g', 0, none⟩) 1 1] W fun e w' => e = .returned (.bool r) ∧ Below W.heap.size W w') :
    Calls Try.prog 15 #[.agg (tnC t (.slice x1 t.fr.length x1c) (.slice x2 t.to.length x2c) (.slice x3 t.ek.length x3c) (.slice x4 t.en.length x4c)).toArray, .agg (tnC u (.slice y1 u.fr.length y1c) (.slice y2 u.to.length y2c) (.slice y3 u.ek.length y3c) (.slice y4 u.en.length y4c)).toArray] w fun e w' => e = .returned (.bool r) ∧ Below w.heap.size w w' := by
  obtain ⟨W, eW⟩ : ∃ W, W = (w.alloc (.cells #[.int .i64 t.pl, .string t.nm, .slice x1 t.fr.length x1c, .slice x2 t.to.length x2c, .int .i64 t.eh.op, .int .i64 t.eh.pl, .string t.eh.nm, .string t.eh.fd, .int .u8 t.eh.vk, .int .u64 t.eh.vb, .string t.eh.vs, .slice x3 t.ek.length x3c, .slice x4 t.en.length x4c, .int .u8 t.eh.kd, .int .i64 t.eh.ar, .int .i64 t.eh.rf, .int .i64 t.eh.fr, .int .i64 t.eh.up] 44 (0, 0))).alloc (.cells #[.int .i64 u.pl, .string u.nm, .slice y1 u.fr.length y1c, .slice y2 u.to.length y2c, .int .i64 u.eh.op, .int .i64 u.eh.pl, .string u.eh.nm, .string u.eh.fd, .int .u8 u.eh.vk, .int .u64 u.eh.vb, .string u.eh.vs, .slice y3 u.ek.length y3c, .slice y4 u.en.length y4c, .int .u8 u.eh.kd, .int .i64 u.eh.ar, .int .i64 u.eh.rf, .int .i64 u.eh.fr, .int .i64 u.eh.up] 44 (0, 0)) := ⟨_, rfl⟩
  obtain ⟨gx, egx⟩ : ∃ n, n = w.heap.size := ⟨_, rfl⟩
  have BW : Hid (Below w.heap.size w W) := by rw [eW]; exact two_b w _ _
  have OX : Hid (W.heap[gx]? = some (.cells #[.int .i64 t.pl, .string t.nm, .slice x1 t.fr.length x1c, .slice x2 t.to.length x2c, .int .i64 t.eh.op, .int .i64 t.eh.pl, .string t.eh.nm, .string t.eh.fd, .int .u8 t.eh.vk, .int .u64 t.eh.vb, .string t.eh.vs, .slice x3 t.ek.length x3c, .slice x4 t.en.length x4c, .int .u8 t.eh.kd, .int .i64 t.eh.ar, .int .i64 t.eh.rf, .int .i64 t.eh.fr, .int .i64 t.eh.up] 44 (0, 0))) := by rw [eW, egx]; exact (Below.heap_alloc _ _ _ (by simp)).trans (heap_alloc_last _ _)
  have OY : Hid (W.heap[gx + 1]? = some (.cells #[.int .i64 u.pl, .string u.nm, .slice y1 u.fr.length y1c, .slice y2 u.to.length y2c, .int .i64 u.eh.op, .int .i64 u.eh.pl, .string u.eh.nm, .string u.eh.fd, .int .u8 u.eh.vk, .int .u64 u.eh.vb, .string u.eh.vs, .slice y3 u.ek.length y3c, .slice y4 u.en.length y4c, .int .u8 u.eh.kd, .int .i64 u.eh.ar, .int .i64 u.eh.rf, .int .i64 u.eh.fr, .int .i64 u.eh.up] 44 (0, 0))) := by
    have q := heap_alloc_last (w.alloc (.cells #[.int .i64 t.pl, .string t.nm, .slice x1 t.fr.length x1c, .slice x2 t.to.length x2c, .int .i64 t.eh.op, .int .i64 t.eh.pl, .string t.eh.nm, .string t.eh.fd, .int .u8 t.eh.vk, .int .u64 t.eh.vb, .string t.eh.vs, .slice x3 t.ek.length x3c, .slice x4 t.en.length x4c, .int .u8 t.eh.kd, .int .i64 t.eh.ar, .int .i64 t.eh.rf, .int .i64 t.eh.fr, .int .i64 t.eh.up] 44 (0, 0))) (.cells #[.int .i64 u.pl, .string u.nm, .slice y1 u.fr.length y1c, .slice y2 u.to.length y2c, .int .i64 u.eh.op, .int .i64 u.eh.pl, .string u.eh.nm, .string u.eh.fd, .int .u8 u.eh.vk, .int .u64 u.eh.vb, .string u.eh.vs, .slice y3 u.ek.length y3c, .slice y4 u.en.length y4c, .int .u8 u.eh.kd, .int .i64 u.eh.ar, .int .i64 u.eh.rf, .int .i64 u.eh.fr, .int .i64 u.eh.up] 44 (0, 0))
    rw [show (w.alloc (.cells #[.int .i64 t.pl, .string t.nm, .slice x1 t.fr.length x1c, .slice x2 t.to.length x2c, .int .i64 t.eh.op, .int .i64 t.eh.pl, .string t.eh.nm, .string t.eh.fd, .int .u8 t.eh.vk, .int .u64 t.eh.vb, .string t.eh.vs, .slice x3 t.ek.length x3c, .slice x4 t.en.length x4c, .int .u8 t.eh.kd, .int .i64 t.eh.ar, .int .i64 t.eh.rf, .int .i64 t.eh.fr, .int .i64 t.eh.up] 44 (0, 0))).heap.size = w.heap.size + 1 by simp] at q
    rw [eW, egx]; exact q
  have H1 : Hid _ := E1
  have H2 : Hid _ := E2
  have H3 : Hid _ := C1
  have H4 : Hid _ := C2
  have H5 : Hid _ := SS
  clear E1 E2 C1 C2 SS
  show Calls _ _ #[.agg #[.int .i64 t.pl, .string t.nm, .slice x1 t.fr.length x1c, .slice x2 t.to.length x2c, .int .i64 t.eh.op, .int .i64 t.eh.pl, .string t.eh.nm, .string t.eh.fd, .int .u8 t.eh.vk, .int .u64 t.eh.vb, .string t.eh.vs, .slice x3 t.ek.length x3c, .slice x4 t.en.length x4c, .int .u8 t.eh.kd, .int .i64 t.eh.ar, .int .i64 t.eh.rf, .int .i64 t.eh.fr, .int .i64 t.eh.up], .agg #[.int .i64 u.pl, .string u.nm, .slice y1 u.fr.length y1c, .slice y2 u.to.length y2c, .int .i64 u.eh.op, .int .i64 u.eh.pl, .string u.eh.nm, .string u.eh.fd, .int .u8 u.eh.vk, .int .u64 u.eh.vb, .string u.eh.vs, .slice y3 u.ek.length y3c, .slice y4 u.en.length y4c, .int .u8 u.eh.kd, .int .i64 u.eh.ar, .int .i64 u.eh.rf, .int .i64 u.eh.fr, .int .i64 u.eh.up]] _ _
  go_enter Try.func15, Try.ntmps15
  go_upto_region 1 with fail
  try rw [← eW]
  try rw [← egx]
  clear eW egx
  have W0X : Hid (W.drew.heap[gx]? = some (.cells #[.int .i64 t.pl, .string t.nm, .slice x1 t.fr.length x1c, .slice x2 t.to.length x2c, .int .i64 t.eh.op, .int .i64 t.eh.pl, .string t.eh.nm, .string t.eh.fd, .int .u8 t.eh.vk, .int .u64 t.eh.vb, .string t.eh.vs, .slice x3 t.ek.length x3c, .slice x4 t.en.length x4c, .int .u8 t.eh.kd, .int .i64 t.eh.ar, .int .i64 t.eh.rf, .int .i64 t.eh.fr, .int .i64 t.eh.up] 44 (0, 0)) ∧ W.drew.heap[gx + 1]? = some (.cells #[.int .i64 u.pl, .string u.nm, .slice y1 u.fr.length y1c, .slice y2 u.to.length y2c, .int .i64 u.eh.op, .int .i64 u.eh.pl, .string u.eh.nm, .string u.eh.fd, .int .u8 u.eh.vk, .int .u64 u.eh.vb, .string u.eh.vs, .slice y3 u.ek.length y3c, .slice y4 u.en.length y4c, .int .u8 u.eh.kd, .int .i64 u.eh.ar, .int .i64 u.eh.rf, .int .i64 u.eh.fr, .int .i64 u.eh.up] 44 (0, 0))) := ⟨OX.out, OY.out⟩
  have W0B : Hid (Below w.heap.size w W.drew) := BW.out.drew
  refine wp_region_held_drew (S := fun V => V.heap[gx]? = some (.cells #[.int .i64 t.pl, .string t.nm, .slice x1 t.fr.length x1c, .slice x2 t.to.length x2c, .int .i64 t.eh.op, .int .i64 t.eh.pl, .string t.eh.nm, .string t.eh.fd, .int .u8 t.eh.vk, .int .u64 t.eh.vb, .string t.eh.vs, .slice x3 t.ek.length x3c, .slice x4 t.en.length x4c, .int .u8 t.eh.kd, .int .i64 t.eh.ar, .int .i64 t.eh.rf, .int .i64 t.eh.fr, .int .i64 t.eh.up] 44 (0, 0)) ∧ V.heap[gx + 1]? = some (.cells #[.int .i64 u.pl, .string u.nm, .slice y1 u.fr.length y1c, .slice y2 u.to.length y2c, .int .i64 u.eh.op, .int .i64 u.eh.pl, .string u.eh.nm, .string u.eh.fd, .int .u8 u.eh.vk, .int .u64 u.eh.vb, .string u.eh.vs, .slice y3 u.ek.length y3c, .slice y4 u.en.length y4c, .int .u8 u.eh.kd, .int .i64 u.eh.ar, .int .i64 u.eh.rf, .int .i64 u.eh.fr, .int .i64 u.eh.up] 44 (0, 0))) (by kernel_rfl) W0X.out (fun hHeld => ?_)
  obtain ⟨W0, e0⟩ : ∃ V, V = W.drew := ⟨_, rfl⟩
  rw [← e0] at W0X W0B hHeld ⊢
  clear e0 BW OX OY
  refine wpAnyH_takeD (i := 0) (d := 5) (v := .pointer (some ⟨gx, 1, none⟩)) rfl (by kernel_rfl) (by kernel_rfl) (by kernel_rfl) (by kernel_rfl) (fun _ _ _ h => h) (Or.inl ⟨by rfl, fun V hV => ?_⟩) hHeld ?_
  · go_simp
  simp only [Act.put, List.setIfInBounds_toArray, List.set_cons_succ, List.set_cons_zero]
  refine wpAnyH_takeD (i := 1) (d := 6) (v := .string t.nm) rfl (by kernel_rfl) (by kernel_rfl) (by kernel_rfl) (by kernel_rfl) (fun _ _ _ h => h) (Or.inl ⟨by rfl, fun V hV => ?_⟩) hHeld ?_
  · have k0 : V.cell? ⟨gx, 1, none⟩ = some (.string t.nm) := by simp [World.cell?, hV.1]
    go_simp
  simp only [Act.put, List.setIfInBounds_toArray, List.set_cons_succ, List.set_cons_zero]
  refine wpAnyH_takeD (i := 2) (d := 7) (v := .pointer (some ⟨gx + 1, 1, none⟩)) rfl (by kernel_rfl) (by kernel_rfl) (by kernel_rfl) (by kernel_rfl) (fun _ _ _ h => h) (Or.inl ⟨by rfl, fun V hV => ?_⟩) hHeld ?_
  · go_simp
  simp only [Act.put, List.setIfInBounds_toArray, List.set_cons_succ, List.set_cons_zero]
  refine wpAnyH_takeD (i := 3) (d := 8) (v := .string u.nm) rfl (by kernel_rfl) (by kernel_rfl) (by kernel_rfl) (by kernel_rfl) (fun _ _ _ h => h) (Or.inl ⟨by rfl, fun V hV => ?_⟩) hHeld ?_
  · have k0 : V.cell? ⟨gx + 1, 1, none⟩ = some (.string u.nm) := by simp [World.cell?, hV.2]
    go_simp
  simp only [Act.put, List.setIfInBounds_toArray, List.set_cons_succ, List.set_cons_zero]
  refine wpAnyH_takeD (i := 4) (d := 9) (v := .bool true) rfl (by kernel_rfl) (by kernel_rfl) (by kernel_rfl) (by kernel_rfl) (fun _ _ _ h => h) (Or.inl ⟨by rfl, fun V hV => ?_⟩) hHeld ?_
  · go_simp
  simp only [Act.put, List.setIfInBounds_toArray, List.set_cons_succ, List.set_cons_zero]
  refine wpAnyH_takeD (i := 5) (d := 10) (v := .bool true) rfl (by kernel_rfl) (by kernel_rfl) (by kernel_rfl) (by kernel_rfl) (fun _ _ _ h => h) (Or.inl ⟨by rfl, fun V hV => ?_⟩) hHeld ?_
  · go_simp
  simp only [Act.put, List.setIfInBounds_toArray, List.set_cons_succ, List.set_cons_zero]
  refine wpAnyH_takeD (i := 6) (d := 11) (v := .pointer (some ⟨gx, 2, none⟩)) rfl (by kernel_rfl) (by kernel_rfl) (by kernel_rfl) (by kernel_rfl) (fun _ _ _ h => h) (Or.inl ⟨by rfl, fun V hV => ?_⟩) hHeld ?_
  · go_simp
  simp only [Act.put, List.setIfInBounds_toArray, List.set_cons_succ, List.set_cons_zero]
  refine wpAnyH_takeD (i := 7) (d := 12) (v := .slice x1 t.fr.length x1c) rfl (by kernel_rfl) (by kernel_rfl) (by kernel_rfl) (by kernel_rfl) (fun _ _ _ h => h) (Or.inl ⟨by rfl, fun V hV => ?_⟩) hHeld ?_
  · have k0 : V.cell? ⟨gx, 2, none⟩ = some (.slice x1 t.fr.length x1c) := by simp [World.cell?, hV.1]
    go_simp
  simp only [Act.put, List.setIfInBounds_toArray, List.set_cons_succ, List.set_cons_zero]
  refine wpAnyH_takeD (i := 8) (d := 13) (v := .pointer (some ⟨gx + 1, 2, none⟩)) rfl (by kernel_rfl) (by kernel_rfl) (by kernel_rfl) (by kernel_rfl) (fun _ _ _ h => h) (Or.inl ⟨by rfl, fun V hV => ?_⟩) hHeld ?_
  · go_simp
  simp only [Act.put, List.setIfInBounds_toArray, List.set_cons_succ, List.set_cons_zero]
  refine wpAnyH_takeD (i := 9) (d := 14) (v := .slice y1 u.fr.length y1c) rfl (by kernel_rfl) (by kernel_rfl) (by kernel_rfl) (by kernel_rfl) (fun _ _ _ h => h) (Or.inl ⟨by rfl, fun V hV => ?_⟩) hHeld ?_
  · have k0 : V.cell? ⟨gx + 1, 2, none⟩ = some (.slice y1 u.fr.length y1c) := by simp [World.cell?, hV.2]
    go_simp
  simp only [Act.put, List.setIfInBounds_toArray, List.set_cons_succ, List.set_cons_zero]
  refine wpAnyH_ready (rs := [10]) (by kernel_rfl) (by simp) ?_
  refine AllReadyH.cons (o := _) rfl (fun K hK => ?_) AllReadyH.nil
  rw [if_pos (by rfl)]
  unfold Oper.wp execOp
  go_simp
  refine (H1.out _ W0B.out).mono ?_
  rintro e W1 ⟨rfl, hb⟩
  have W1X : Hid (W1.heap[gx]? = some (.cells #[.int .i64 t.pl, .string t.nm, .slice x1 t.fr.length x1c, .slice x2 t.to.length x2c, .int .i64 t.eh.op, .int .i64 t.eh.pl, .string t.eh.nm, .string t.eh.fd, .int .u8 t.eh.vk, .int .u64 t.eh.vb, .string t.eh.vs, .slice x3 t.ek.length x3c, .slice x4 t.en.length x4c, .int .u8 t.eh.kd, .int .i64 t.eh.ar, .int .i64 t.eh.rf, .int .i64 t.eh.fr, .int .i64 t.eh.up] 44 (0, 0)) ∧ W1.heap[gx + 1]? = some (.cells #[.int .i64 u.pl, .string u.nm, .slice y1 u.fr.length y1c, .slice y2 u.to.length y2c, .int .i64 u.eh.op, .int .i64 u.eh.pl, .string u.eh.nm, .string u.eh.fd, .int .u8 u.eh.vk, .int .u64 u.eh.vb, .string u.eh.vs, .slice y3 u.ek.length y3c, .slice y4 u.en.length y4c, .int .u8 u.eh.kd, .int .i64 u.eh.ar, .int .i64 u.eh.rf, .int .i64 u.eh.fr, .int .i64 u.eh.up] 44 (0, 0))) := ⟨(hb.block _ (blk_in2' W0X.out.1)).trans W0X.out.1, (hb.block _ (blk_in2' W0X.out.2)).trans W0X.out.2⟩
  have W1B : Hid (Below w.heap.size w W1) := W0B.out.trans (hb.mono W0B.out.size)
  refine hK.out _ _ W1X.out (fun hHeld => ?_)
  clear hK K hb
  refine wpAnyH_takeD (i := 11) (d := 16) (v := .bool true) rfl (by kernel_rfl) (by kernel_rfl) (by kernel_rfl) (by kernel_rfl) (fun _ _ _ h => h) (Or.inl ⟨by rfl, fun V hV => ?_⟩) hHeld ?_
  · go_simp
  simp only [Act.put, List.setIfInBounds_toArray, List.set_cons_succ, List.set_cons_zero]
  refine wpAnyH_takeD (i := 12) (d := 17) (v := .bool true) rfl (by kernel_rfl) (by kernel_rfl) (by kernel_rfl) (by kernel_rfl) (fun _ _ _ h => h) (Or.inl ⟨by rfl, fun V hV => ?_⟩) hHeld ?_
  · go_simp
  simp only [Act.put, List.setIfInBounds_toArray, List.set_cons_succ, List.set_cons_zero]
  refine wpAnyH_takeD (i := 13) (d := 18) (v := .pointer (some ⟨gx, 3, none⟩)) rfl (by kernel_rfl) (by kernel_rfl) (by kernel_rfl) (by kernel_rfl) (fun _ _ _ h => h) (Or.inl ⟨by rfl, fun V hV => ?_⟩) hHeld ?_
  · go_simp
  simp only [Act.put, List.setIfInBounds_toArray, List.set_cons_succ, List.set_cons_zero]
  refine wpAnyH_takeD (i := 14) (d := 19) (v := .slice x2 t.to.length x2c) rfl (by kernel_rfl) (by kernel_rfl) (by kernel_rfl) (by kernel_rfl) (fun _ _ _ h => h) (Or.inl ⟨by rfl, fun V hV => ?_⟩) hHeld ?_
  · have k0 : V.cell? ⟨gx, 3, none⟩ = some (.slice x2 t.to.length x2c) := by simp [World.cell?, hV.1]
    go_simp
  simp only [Act.put, List.setIfInBounds_toArray, List.set_cons_succ, List.set_cons_zero]
  refine wpAnyH_takeD (i := 15) (d := 20) (v := .pointer (some ⟨gx + 1, 3, none⟩)) rfl (by kernel_rfl) (by kernel_rfl) (by kernel_rfl) (by kernel_rfl) (fun _ _ _ h => h) (Or.inl ⟨by rfl, fun V hV => ?_⟩) hHeld ?_
  · go_simp
  simp only [Act.put, List.setIfInBounds_toArray, List.set_cons_succ, List.set_cons_zero]
  refine wpAnyH_takeD (i := 16) (d := 21) (v := .slice y2 u.to.length y2c) rfl (by kernel_rfl) (by kernel_rfl) (by kernel_rfl) (by kernel_rfl) (fun _ _ _ h => h) (Or.inl ⟨by rfl, fun V hV => ?_⟩) hHeld ?_
  · have k0 : V.cell? ⟨gx + 1, 3, none⟩ = some (.slice y2 u.to.length y2c) := by simp [World.cell?, hV.2]
    go_simp
  simp only [Act.put, List.setIfInBounds_toArray, List.set_cons_succ, List.set_cons_zero]
  refine wpAnyH_ready (rs := [17]) (by kernel_rfl) (by simp) ?_
  refine AllReadyH.cons (o := _) rfl (fun K hK => ?_) AllReadyH.nil
  rw [if_pos (by rfl)]
  unfold Oper.wp execOp
  go_simp
  refine (H2.out _ W1B.out).mono ?_
  rintro e W2 ⟨rfl, hb⟩
  have W2X : Hid (W2.heap[gx]? = some (.cells #[.int .i64 t.pl, .string t.nm, .slice x1 t.fr.length x1c, .slice x2 t.to.length x2c, .int .i64 t.eh.op, .int .i64 t.eh.pl, .string t.eh.nm, .string t.eh.fd, .int .u8 t.eh.vk, .int .u64 t.eh.vb, .string t.eh.vs, .slice x3 t.ek.length x3c, .slice x4 t.en.length x4c, .int .u8 t.eh.kd, .int .i64 t.eh.ar, .int .i64 t.eh.rf, .int .i64 t.eh.fr, .int .i64 t.eh.up] 44 (0, 0)) ∧ W2.heap[gx + 1]? = some (.cells #[.int .i64 u.pl, .string u.nm, .slice y1 u.fr.length y1c, .slice y2 u.to.length y2c, .int .i64 u.eh.op, .int .i64 u.eh.pl, .string u.eh.nm, .string u.eh.fd, .int .u8 u.eh.vk, .int .u64 u.eh.vb, .string u.eh.vs, .slice y3 u.ek.length y3c, .slice y4 u.en.length y4c, .int .u8 u.eh.kd, .int .i64 u.eh.ar, .int .i64 u.eh.rf, .int .i64 u.eh.fr, .int .i64 u.eh.up] 44 (0, 0))) := ⟨(hb.block _ (blk_in2' W1X.out.1)).trans W1X.out.1, (hb.block _ (blk_in2' W1X.out.2)).trans W1X.out.2⟩
  have W2B : Hid (Below w.heap.size w W2) := W1B.out.trans (hb.mono W1B.out.size)
  refine hK.out _ _ W2X.out (fun hHeld => ?_)
  clear hK K hb
  refine wpAnyH_takeD (i := 18) (d := 23) (v := .bool true) rfl (by kernel_rfl) (by kernel_rfl) (by kernel_rfl) (by kernel_rfl) (fun _ _ _ h => h) (Or.inl ⟨by rfl, fun V hV => ?_⟩) hHeld ?_
  · go_simp
  simp only [Act.put, List.setIfInBounds_toArray, List.set_cons_succ, List.set_cons_zero]
  refine wpAnyH_takeD (i := 19) (d := 24) (v := .bool true) rfl (by kernel_rfl) (by kernel_rfl) (by kernel_rfl) (by kernel_rfl) (fun _ _ _ h => h) (Or.inl ⟨by rfl, fun V hV => ?_⟩) hHeld ?_
  · go_simp
  simp only [Act.put, List.setIfInBounds_toArray, List.set_cons_succ, List.set_cons_zero]
  refine wpAnyH_takeD (i := 20) (d := 25) (v := .agg #[.int .i64 t.pl, .string t.nm, .slice x1 t.fr.length x1c, .slice x2 t.to.length x2c, .int .i64 t.eh.op, .int .i64 t.eh.pl, .string t.eh.nm, .string t.eh.fd, .int .u8 t.eh.vk, .int .u64 t.eh.vb, .string t.eh.vs, .slice x3 t.ek.length x3c, .slice x4 t.en.length x4c, .int .u8 t.eh.kd, .int .i64 t.eh.ar, .int .i64 t.eh.rf, .int .i64 t.eh.fr, .int .i64 t.eh.up]) rfl (by kernel_rfl) (by kernel_rfl) (by kernel_rfl) (by kernel_rfl) (fun _ _ _ h => h) (yieldsIf_load_mid (by rfl) 44 (.tmp 2) rfl (gx) 0 rfl [.int .i64 t.pl, .string t.nm, .slice x1 t.fr.length x1c, .slice x2 t.to.length x2c, .int .i64 t.eh.op, .int .i64 t.eh.pl, .string t.eh.nm, .string t.eh.fd, .int .u8 t.eh.vk, .int .u64 t.eh.vb, .string t.eh.vs, .slice x3 t.ek.length x3c, .slice x4 t.en.length x4c, .int .u8 t.eh.kd, .int .i64 t.eh.ar, .int .i64 t.eh.rf, .int .i64 t.eh.fr, .int .i64 t.eh.up] _ (fun V hV => row_range hV.1) Try.underlying44 rfl (by exact tn_info)) hHeld ?_
  simp only [Act.put, List.setIfInBounds_toArray, List.set_cons_succ, List.set_cons_zero]
  refine wpAnyH_takeD (i := 22) (d := 27) (v := .agg #[.int .i64 u.pl, .string u.nm, .slice y1 u.fr.length y1c, .slice y2 u.to.length y2c, .int .i64 u.eh.op, .int .i64 u.eh.pl, .string u.eh.nm, .string u.eh.fd, .int .u8 u.eh.vk, .int .u64 u.eh.vb, .string u.eh.vs, .slice y3 u.ek.length y3c, .slice y4 u.en.length y4c, .int .u8 u.eh.kd, .int .i64 u.eh.ar, .int .i64 u.eh.rf, .int .i64 u.eh.fr, .int .i64 u.eh.up]) rfl (by kernel_rfl) (by kernel_rfl) (by kernel_rfl) (by kernel_rfl) (fun _ _ _ h => h) (yieldsIf_load_mid (by rfl) 44 (.tmp 3) rfl (gx + 1) 0 rfl [.int .i64 u.pl, .string u.nm, .slice y1 u.fr.length y1c, .slice y2 u.to.length y2c, .int .i64 u.eh.op, .int .i64 u.eh.pl, .string u.eh.nm, .string u.eh.fd, .int .u8 u.eh.vk, .int .u64 u.eh.vb, .string u.eh.vs, .slice y3 u.ek.length y3c, .slice y4 u.en.length y4c, .int .u8 u.eh.kd, .int .i64 u.eh.ar, .int .i64 u.eh.rf, .int .i64 u.eh.fr, .int .i64 u.eh.up] _ (fun V hV => row_range hV.2) Try.underlying44 rfl (by exact tn_info)) hHeld ?_
  simp only [Act.put, List.setIfInBounds_toArray, List.set_cons_succ, List.set_cons_zero]
  refine wpAnyH_ready (rs := [21]) (by kernel_rfl) (by simp) ?_
  refine AllReadyH.cons (o := _) rfl (fun K hK => ?_) AllReadyH.nil
  rw [if_pos (by rfl)]
  unfold Oper.wp execOp
  go_simp
  refine (H3.out _ W2B.out).mono ?_
  rintro e W3 ⟨⟨g1, rfl, hs1⟩, hb⟩
  have W3X : Hid (W3.heap[gx]? = some (.cells #[.int .i64 t.pl, .string t.nm, .slice x1 t.fr.length x1c, .slice x2 t.to.length x2c, .int .i64 t.eh.op, .int .i64 t.eh.pl, .string t.eh.nm, .string t.eh.fd, .int .u8 t.eh.vk, .int .u64 t.eh.vb, .string t.eh.vs, .slice x3 t.ek.length x3c, .slice x4 t.en.length x4c, .int .u8 t.eh.kd, .int .i64 t.eh.ar, .int .i64 t.eh.rf, .int .i64 t.eh.fr, .int .i64 t.eh.up] 44 (0, 0)) ∧ W3.heap[gx + 1]? = some (.cells #[.int .i64 u.pl, .string u.nm, .slice y1 u.fr.length y1c, .slice y2 u.to.length y2c, .int .i64 u.eh.op, .int .i64 u.eh.pl, .string u.eh.nm, .string u.eh.fd, .int .u8 u.eh.vk, .int .u64 u.eh.vb, .string u.eh.vs, .slice y3 u.ek.length y3c, .slice y4 u.en.length y4c, .int .u8 u.eh.kd, .int .i64 u.eh.ar, .int .i64 u.eh.rf, .int .i64 u.eh.fr, .int .i64 u.eh.up] 44 (0, 0))) := ⟨(hb.block _ (blk_in2' W2X.out.1)).trans W2X.out.1, (hb.block _ (blk_in2' W2X.out.2)).trans W2X.out.2⟩
  have W3B : Hid (Below w.heap.size w W3) := W2B.out.trans (hb.mono W2B.out.size)
  have S1 : Hid (StL (fun b => b < W3.heap.size) (d + 2) W3 (some ⟨g1, 0, none⟩) [cnd 0 t]) := hs1
  clear hs1
  refine hK.out _ _ W3X.out (fun hHeld => ?_)
  clear hK K hb
  refine wpAnyH_ready (rs := [23]) (by kernel_rfl) (by simp) ?_
  refine AllReadyH.cons (o := _) rfl (fun K hK => ?_) AllReadyH.nil
  rw [if_pos (by rfl)]
  unfold Oper.wp execOp
  go_simp
  refine (H4.out _ W3B.out).mono ?_
  rintro e W4 ⟨⟨g2, rfl, hs2⟩, hb⟩
  have W4X : Hid (W4.heap[gx]? = some (.cells #[.int .i64 t.pl, .string t.nm, .slice x1 t.fr.length x1c, .slice x2 t.to.length x2c, .int .i64 t.eh.op, .int .i64 t.eh.pl, .string t.eh.nm, .string t.eh.fd, .int .u8 t.eh.vk, .int .u64 t.eh.vb, .string t.eh.vs, .slice x3 t.ek.length x3c, .slice x4 t.en.length x4c, .int .u8 t.eh.kd, .int .i64 t.eh.ar, .int .i64 t.eh.rf, .int .i64 t.eh.fr, .int .i64 t.eh.up] 44 (0, 0)) ∧ W4.heap[gx + 1]? = some (.cells #[.int .i64 u.pl, .string u.nm, .slice y1 u.fr.length y1c, .slice y2 u.to.length y2c, .int .i64 u.eh.op, .int .i64 u.eh.pl, .string u.eh.nm, .string u.eh.fd, .int .u8 u.eh.vk, .int .u64 u.eh.vb, .string u.eh.vs, .slice y3 u.ek.length y3c, .slice y4 u.en.length y4c, .int .u8 u.eh.kd, .int .i64 u.eh.ar, .int .i64 u.eh.rf, .int .i64 u.eh.fr, .int .i64 u.eh.up] 44 (0, 0))) := ⟨(hb.block _ (blk_in2' W3X.out.1)).trans W3X.out.1, (hb.block _ (blk_in2' W3X.out.2)).trans W3X.out.2⟩
  have W4B : Hid (Below w.heap.size w W4) := W3B.out.trans (hb.mono W3B.out.size)
  have S1' : Hid (StL (fun b => b < W4.heap.size) (d + 2) W4 (some ⟨g1, 0, none⟩) [cnd 0 t]) := S1.out.on hb
  have S2 : Hid (StL (fun b => b < W4.heap.size) (d + 2) W4 (some ⟨g2, 0, none⟩) [cnd 0 u]) := hs2
  clear hs2
  refine hK.out _ _ W4X.out (fun hHeld => ?_)
  clear hK K hb
  refine wpAnyH_ready (rs := [24]) (by kernel_rfl) (by simp) ?_
  refine AllReadyH.cons (o := _) rfl (fun K hK => ?_) AllReadyH.nil
  rw [if_pos (by rfl)]
  unfold Oper.wp execOp
  go_simp
  refine (H5.out _ _ _ S1'.out S2.out).mono ?_
  rintro e W5 ⟨rfl, hb⟩
  have W5X : Hid (W5.heap[gx]? = some (.cells #[.int .i64 t.pl, .string t.nm, .slice x1 t.fr.length x1c, .slice x2 t.to.length x2c, .int .i64 t.eh.op, .int .i64 t.eh.pl, .string t.eh.nm, .string t.eh.fd, .int .u8 t.eh.vk, .int .u64 t.eh.vb, .string t.eh.vs, .slice x3 t.ek.length x3c, .slice x4 t.en.length x4c, .int .u8 t.eh.kd, .int .i64 t.eh.ar, .int .i64 t.eh.rf, .int .i64 t.eh.fr, .int .i64 t.eh.up] 44 (0, 0)) ∧ W5.heap[gx + 1]? = some (.cells #[.int .i64 u.pl, .string u.nm, .slice y1 u.fr.length y1c, .slice y2 u.to.length y2c, .int .i64 u.eh.op, .int .i64 u.eh.pl, .string u.eh.nm, .string u.eh.fd, .int .u8 u.eh.vk, .int .u64 u.eh.vb, .string u.eh.vs, .slice y3 u.ek.length y3c, .slice y4 u.en.length y4c, .int .u8 u.eh.kd, .int .i64 u.eh.ar, .int .i64 u.eh.rf, .int .i64 u.eh.fr, .int .i64 u.eh.up] 44 (0, 0))) := ⟨(hb.block _ (blk_in2' W4X.out.1)).trans W4X.out.1, (hb.block _ (blk_in2' W4X.out.2)).trans W4X.out.2⟩
  have W5B : Hid (Below w.heap.size w W5) := W4B.out.trans (hb.mono W4B.out.size)
  refine hK.out _ _ W5X.out (fun hHeld => ?_)
  clear hK K hb
  refine wpAnyH_takeD (i := 25) (d := 30) (v := .bool r) rfl (by kernel_rfl) (by kernel_rfl) (by kernel_rfl) (by kernel_rfl) (fun _ _ _ h => h) (Or.inl ⟨by rfl, fun V hV => ?_⟩) hHeld ?_
  · go_simp
  simp only [Act.put, List.setIfInBounds_toArray, List.set_cons_succ, List.set_cons_zero]
  refine wpAnyH_takeD (i := 26) (d := 4) (v := .bool r) rfl (by kernel_rfl) (by kernel_rfl) (by kernel_rfl) (by kernel_rfl) (fun _ _ _ h => h) (Or.inl ⟨by rfl, fun V hV => ?_⟩) hHeld ?_
  · go_simp
  simp only [Act.put, List.setIfInBounds_toArray, List.set_cons_succ, List.set_cons_zero]
  refine wpAnyH_done (by kernel_rfl) ?_ _
  go_step
  go_wp2
  go_ret
  exact ⟨by first | rfl | simp, W5B.out⟩
theorem sameTn_of (d : Nat) (hd : d + 2 ≤ 131072) (t u : TnR) (x1 x2 x3 x4 y1 y2 y3 y4 : Option Addr) (x1c x2c x3c x4c y1c y2c y3c y4c : Nat) (w : World) (h : TnQ (fun b => b < w.heap.size) d w t x1 x2 x3 x4) (h' : TnQ (fun b => b < w.heap.size) d w u y1 y2 y3 y4) :
    Calls Try.prog 15 #[.agg (tnC t (.slice x1 t.fr.length x1c) (.slice x2 t.to.length x2c) (.slice x3 t.ek.length x3c) (.slice x4 t.en.length x4c)).toArray, .agg (tnC u (.slice y1 u.fr.length y1c) (.slice y2 u.to.length y2c) (.slice y3 u.ek.length y3c) (.slice y4 u.en.length y4c)).toArray] w fun e w' => e = .returned (.bool (smTn d t u)) ∧ Below w.heap.size w w' := by
  have on : ∀ {W : World} {t : TnR} {x1 x2 x3 x4 : Option Addr}, TnQ (fun b => b < w.heap.size) d w t x1 x2 x3 x4 → Below w.heap.size w W → TnQ (fun b => b < W.heap.size) d W t x1 x2 x3 x4 := fun q hb => (q.fr (old_fr hb)).sub fun b q => Nat.lt_of_lt_of_le q hb.size
  have e1 : ∀ r, decide (t.fr = u.fr) = r → ∀ W, Below w.heap.size w W → Calls Try.prog 23 #[.slice x1 t.fr.length x1c, .slice y1 u.fr.length y1c] W fun e w' => e = .returned (.bool r) ∧ Below W.heap.size W w' := fun r hr W hb => by
    have := EqualT x1 y1 t.fr u.fr x1c y1c W (on h hb).1.1.1 (on h' hb).1.1.1 (Nat.lt_trans h.1.2 (by decide))
    rwa [hr] at this
  have e2 : ∀ r, decide (t.to = u.to) = r → ∀ W, Below w.heap.size w W → Calls Try.prog 23 #[.slice x2 t.to.length x2c, .slice y2 u.to.length y2c] W fun e w' => e = .returned (.bool r) ∧ Below W.heap.size W w' := fun r hr W hb => by
    have := EqualT x2 y2 t.to u.to x2c y2c W (on h hb).2.1.1.1 (on h' hb).2.1.1.1 (Nat.lt_trans h.2.1.2 (by decide))
    rwa [hr] at this
  unfold smTn
  cases f1 : (t.nm.toList == u.nm.toList)
  · exact tn_0 t u x1 x2 x3 x4 y1 y2 y3 y4 x1c x2c x3c x4c y1c y2c y3c y4c w f1
  · cases f2 : decide (t.fr = u.fr)
    · exact tn_1 t u x1 x2 x3 x4 y1 y2 y3 y4 x1c x2c x3c x4c y1c y2c y3c y4c w f1 (e1 _ f2)
    · cases f3 : decide (t.to = u.to)
      · exact tn_2 t u x1 x2 x3 x4 y1 y2 y3 y4 x1c x2c x3c x4c y1c y2c y3c y4c w f1 (e1 _ f2) (e2 _ f3)
      · refine tn_3 d t u x1 x2 x3 x4 y1 y2 y3 y4 x1c x2c x3c x4c y1c y2c y3c y4c w _ f1 (e1 _ f2) (e2 _ f3) (fun W hb => cond_of d t _ _ _ _ _ _ _ _ W (on h hb)) (fun W hb => cond_of d u _ _ _ _ _ _ _ _ W (on h' hb)) fun W g g' s1 s2 => ?_
        have q := SameS_c (d + 2) hd W _ _ [cnd 0 t] [cnd 0 u] 1 1 s1 s2
        rw [cnd_same] at q
        exact q
theorem enter_tn (args : Array Value) (w : World) : (callFunc 15 args).run Try.prog w = .ok (.enter 15 args) w := by kernel_rfl
end Go.Proofs.Ytcoeinfopfcekaa
