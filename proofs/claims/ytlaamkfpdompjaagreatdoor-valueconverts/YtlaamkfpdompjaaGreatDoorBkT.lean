/- The document's numbers by sign and size: without a fault the number fits; no statement of the seat is proved here. -/
import Derived.Test.YtlaamkfpdompjaaGreatDoorBkQ
namespace Go.Proofs.YtlaamkfpdompjaaGreatDoor
set_option linter.unusedVariables false
open Go.RowKit
def RcOk (l N : Int) (e : Ending) : Prop := ∃ k' b' s' g, e = .returned (.tuple #[V k' b' s', .int .i64 g]) ∧ (2 ≤ l ∧ l ≤ 9 → g = 0 → fitOk l N = true)
theorem fitS (l N : Int) (hl : 2 ≤ l ∧ l ≤ 9) (a : 2 ≤ l ∧ l ≤ 5 → -9223372036854775808 ≤ N ∧ N < 9223372036854775808) (u : 6 ≤ l → 0 ≤ N ∧ N < 18446744073709551616) (m : mayW l (N % 18446744073709551616) = true) : fitOk l N = true := by
  have e : num l (N % 18446744073709551616) = N := by
    by_cases h : 2 ≤ l ∧ l ≤ 5
    · have := a h
      unfold num
      rw [if_pos (Or.inl h)]
      unfold wrap64
      omega
    · rw [num_u (by omega)]
      have := u (by omega)
      omega
  unfold fitOk
  rw [e]
  simp [may3, m]
  omega
section
variable (l kv b : Int) (w : World)
theorem rc_none (l N f : Int) (h : f ≠ 0) : RcOk l N (.returned (.tuple #[V 0 0 E0, .int .i64 f])) := ⟨0, 0, E0, f, rfl, fun _ e => absurd e h⟩
theorem boxD {w w4 : World} {u : TypeId} {o : Obj} (hb : Below ((w.alloc (.cells #[.int .u8 0, .int .u64 0, .string ⟨#[]⟩] u)).alloc o).heap.size ((w.alloc (.cells #[.int .u8 0, .int .u64 0, .string ⟨#[]⟩] u)).alloc o) w4) :
    w.heap.size < w4.heap.size ∧ w4.cell? ⟨w.heap.size, 0, none⟩ = some (.int .u8 0) ∧ w4.cell? ⟨w.heap.size, 1, none⟩ = some (.int .u64 0) ∧ w4.cell? ⟨w.heap.size, 2, none⟩ = some (.string ⟨#[]⟩) ∧ (∀ o, w4.frozen? ⟨w.heap.size, o, none⟩ = false) ∧ Below w.heap.size w w4 := by
  have hs := hb.size
  simp only [World.size_alloc] at hs
  refine ⟨by omega, ?_, ?_, ?_, ?_, (((Below.refl _ _).alloc (Nat.le_refl _) _).alloc (by simp) _).trans (hb.mono (by simp; omega))⟩
  · rw [hb.cell (p := ⟨w.heap.size, 0, none⟩) (by simp; omega)]; simp
  · rw [hb.cell (p := ⟨w.heap.size, 1, none⟩) (by simp; omega)]; simp
  · rw [hb.cell (p := ⟨w.heap.size, 2, none⟩) (by simp; omega)]; simp
  · intro o
    rw [hb.frozen (p := ⟨w.heap.size, o, none⟩) (by simp; omega)]; simp
theorem rc_made (l N B : Int) (k' b' : Int) (s' : ByteArray) (g : Int) (h : 2 ≤ l ∧ l ≤ 9 → g = 0 → fitOk l N = true) : RcOk l N (.returned (.tuple #[V k' b' s', .int .i64 g])) := ⟨k', b', s', g, rfl, h⟩
theorem rv_form (q : Bool) (l B : Int) : ∃ k' b' g, RV q l B 7 = .tuple #[V k' b' E0, .int .i64 g] ∧ (g = 0 → q = true) := by
  cases q
  · exact ⟨0, 0, 7, rfl, fun h => absurd h (by omega)⟩
  · exact ⟨l, B, 0, rfl, fun _ => rfl⟩
set_option maxRecDepth 100000 in
set_option maxHeartbeats 2000000 in
theorem sized_neg (N z B : Int) (hl : 2 ≤ l ∧ l ≤ 13) (z0 : 0 < z) (z1 : z ≤ 9223372036854775808) (eb : IntKind.u64.wrap (-z) = B) (B0 : 0 ≤ B) (B1 : B < 18446744073709551616) (FS : Hid (2 ≤ l ∧ l ≤ 5 → mayW l B = true → fitOk l N = true)) :
    Calls Tryz.prog 39 #[.int .u8 l, .int .u64 z, .bool true] w fun e w' => RcOk l N e ∧ Below w.heap.size w w' := by
  have hk : 0 ≤ l ∧ l < 256 := by omega
  by_cases sg : l ≤ 5
  · obtain ⟨k', b', g, eq, hg⟩ := rv_form (mayW l B) l B
    have MD : Hid (∀ w, Calls Tryz.prog 42 #[.int .u8 l, .int .u64 B, .int .i64 7] w fun e w' => e = .returned (.tuple #[V k' b' E0, .int .i64 g]) ∧ Below w.heap.size w w') := fun w => by
      have := made_of l B 7 w B0 B1 hk
      rwa [eq] at this
    have OK : Hid (RcOk l N (.returned (.tuple #[V k' b' E0, .int .i64 g]))) := rc_made l N B k' b' E0 g fun h e => FS.out ⟨h.1, sg⟩ (hg e)
    clear eq hg FS
    go_enter Tryz.func39, Tryz.ntmps39
    go_wp2_with (first
      | (go_at_call 43; refine (SignedR_is l _ true hk (by symm; simp; omega)).mono ?_; rintro e w2 ⟨rfl, rfl⟩)
      | (go_at_call 42; refine (MD.out _).mono ?_; rintro e w4 ⟨rfl, hb4⟩; obtain ⟨y0, p0, p1, p2, p6, PB⟩ := boxD hb4; clear hb4))
    exact bodyPost_ret (v := .tuple #[V k' b' E0, .int .i64 g]) (by simp [results, Tryz.results39, go_sem, p0, p1, p2]) rfl ⟨OK.out, ((PB.setCell (by simp) _).setCell (by simp) _).setCell (by simp) _⟩
  · go_enter Tryz.func39, Tryz.ntmps39
    go_wp2_with (first
      | (go_at_call 43; refine (SignedR_is l _ false hk (by symm; simp; omega)).mono ?_; rintro e w2 ⟨rfl, rfl⟩))
    exact bodyPost_ret (v := .tuple #[V 0 0 E0, .int .i64 7]) (by simp [results, Tryz.results39, go_sem]) rfl ⟨rc_none l N 7 (by omega), by go_grown⟩
set_option maxRecDepth 100000 in
set_option maxHeartbeats 2000000 in
theorem sized_pos (N : Int) (hl : 2 ≤ l ∧ l ≤ 13) (N0 : 0 ≤ N) (N1 : N < 18446744073709551616) :
    Calls Tryz.prog 39 #[.int .u8 l, .int .u64 N, .bool false] w fun e w' => RcOk l N e ∧ Below w.heap.size w w' := by
  have hk : 0 ≤ l ∧ l < 256 := by omega
  obtain ⟨k', b', g, eq, hg⟩ := rv_form (mayW l N) l N
  have MD : Hid (∀ w, Calls Tryz.prog 42 #[.int .u8 l, .int .u64 N, .int .i64 7] w fun e w' => e = .returned (.tuple #[V k' b' E0, .int .i64 g]) ∧ Below w.heap.size w w') := fun w => by
    have := made_of l N 7 w N0 N1 hk
    rwa [eq] at this
  have eN : N % 18446744073709551616 = N := by omega
  by_cases sg : l ≤ 5
  · by_cases big : 9223372036854775808 ≤ N
    · clear eN
      go_enter Tryz.func39, Tryz.ntmps39
      go_wp2_with (first
        | (go_at_call 43; refine (SignedR_is l _ true hk (by symm; simp; omega)).mono ?_; rintro e w2 ⟨rfl, rfl⟩))
      exact bodyPost_ret (v := .tuple #[V 0 0 E0, .int .i64 7]) (by simp [results, Tryz.results39, go_sem]) rfl ⟨rc_none l N 7 (by omega), by go_grown⟩
    · have OK : Hid (RcOk l N (.returned (.tuple #[V k' b' E0, .int .i64 g]))) := rc_made l N N k' b' E0 g fun h e => fitS l N h (fun _ => by omega) (fun _ => by omega) (by rw [eN]; exact hg e)
      clear eq hg eN
      go_enter Tryz.func39, Tryz.ntmps39
      go_wp2_with (first
        | (go_at_call 43; refine (SignedR_is l _ true hk (by symm; simp; omega)).mono ?_; rintro e w2 ⟨rfl, rfl⟩)
        | (go_at_call 42; refine (MD.out _).mono ?_; rintro e w4 ⟨rfl, hb4⟩; obtain ⟨y0, p0, p1, p2, p6, PB⟩ := boxD hb4; clear hb4))
      exact bodyPost_ret (v := .tuple #[V k' b' E0, .int .i64 g]) (by simp [results, Tryz.results39, go_sem, p0, p1, p2]) rfl ⟨OK.out, ((PB.setCell (by simp) _).setCell (by simp) _).setCell (by simp) _⟩
  · have OK : Hid (RcOk l N (.returned (.tuple #[V k' b' E0, .int .i64 g]))) := rc_made l N N k' b' E0 g fun h e => fitS l N h (fun _ => by omega) (fun _ => by omega) (by rw [eN]; exact hg e)
    clear eq hg eN
    go_enter Tryz.func39, Tryz.ntmps39
    go_wp2_with (first
      | (go_at_call 43; refine (SignedR_is l _ false hk (by symm; simp; omega)).mono ?_; rintro e w2 ⟨rfl, rfl⟩)
      | (go_at_call 42; refine (MD.out _).mono ?_; rintro e w4 ⟨rfl, hb4⟩; obtain ⟨y0, p0, p1, p2, p6, PB⟩ := boxD hb4; clear hb4))
    exact bodyPost_ret (v := .tuple #[V k' b' E0, .int .i64 g]) (by simp [results, Tryz.results39, go_sem, p0, p1, p2]) rfl ⟨OK.out, ((PB.setCell (by simp) _).setCell (by simp) _).setCell (by simp) _⟩
end
end Go.Proofs.YtlaamkfpdompjaaGreatDoor
