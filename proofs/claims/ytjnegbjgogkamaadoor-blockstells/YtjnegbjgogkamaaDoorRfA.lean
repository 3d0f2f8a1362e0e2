/- The document's blocks: a block's numbers by the names of its variables; no statement of the seat is proved here. -/
import Derived.Test.YtjnegbjgogkamaaDoorBlkA
import Derived.Handy
import Derived.Deep.RegionHeld3
import Derived.Test.YtjnegbjgogkamaaDoorSubG
namespace Go.Proofs.YtjnegbjgogkamaaDoor
set_option linter.unusedVariables false
open Go.RowKit
/-- Block g begins with these numbers, and may be written. -/
def RBk (w : World) (g : Nat) (l : List Int) : Prop := ∃ r : List Value, w.heap[g]? = some (.cells (l.map (Value.int .i64) ++ r).toArray 3 (0, 0))
theorem RBk.cell {w : World} {g : Nat} {l : List Int} (h : RBk w g l) (i : Nat) (x : Int) (hx : l[i]? = some x) : w.cell? ⟨g, i, none⟩ = some (.int .i64 x) := by
  obtain ⟨r, h⟩ := h
  have hi : i < l.length := (List.getElem?_eq_some_iff.1 hx).1
  simp [World.cell?, h, List.getElem?_append_left, hi]
  exact (List.getElem?_eq_some_iff.1 hx).2
theorem RBk.free {w : World} {g : Nat} {l : List Int} (h : RBk w g l) (i : Nat) : w.frozen? ⟨g, i, none⟩ = false := by
  obtain ⟨r, h⟩ := h; simp [World.frozen?, h]
theorem RBk.lt {w : World} {g : Nat} {l : List Int} (h : RBk w g l) : g < w.heap.size := by
  obtain ⟨r, h⟩ := h; exact lt_of_block h
theorem RBk.same {w w' : World} {g : Nat} {l : List Int} (h : RBk w g l) (e : w'.heap[g]? = w.heap[g]?) : RBk w' g l := by
  obtain ⟨r, h⟩ := h; exact ⟨r, e.trans h⟩
theorem RBk.set {w : World} {g : Nat} {l : List Int} (h : RBk w g l) (i : Nat) (x : Int) (hi : i < l.length) : RBk (w.setCell ⟨g, i, none⟩ (.int .i64 x)) g (l.set i x) := by
  have hlt := h.lt
  obtain ⟨r, h⟩ := h
  refine ⟨r, ?_⟩
  have h' : w.heap[g] = .cells (l.map (Value.int .i64) ++ r).toArray 3 (0, 0) := by simpa [Array.getElem?_eq_getElem hlt] using h
  show (w.heap.modify g _)[g]? = _
  rw [Array.getElem?_eq_getElem (by simpa using hlt), Array.getElem_modify_self, h']
  simp [List.map_set, List.set_append_left, hi]
/-- The world behind is the one ahead, but that block g begins with other numbers, and that there may be more blocks. -/
structure Ws (w w' : World) (g : Nat) (l : List Int) : Prop where
  nb : RBk w' g l
  os : w'.os = w.os
  tape : w'.tape = w.tape
  output : w'.output = w.output
  size : w.heap.size ≤ w'.heap.size
  other : ∀ k, k < w.heap.size → k ≠ g → w'.heap[k]? = w.heap[k]?
theorem Ws.refl {w : World} {g : Nat} {l : List Int} (h : RBk w g l) : Ws w w g l := ⟨h, rfl, rfl, rfl, Nat.le_refl _, fun _ _ _ => rfl⟩
theorem Ws.step {w w' w'' : World} {g : Nat} {l : List Int} (h : Ws w w' g l) (hb : Below w'.heap.size w' w'') : Ws w w'' g l :=
  ⟨h.nb.same (hb.block g h.nb.lt), hb.os.trans h.os, hb.tape.trans h.tape, hb.output.trans h.output, Nat.le_trans h.size hb.size, fun k hk hg => (hb.block k (by have := h.size; omega)).trans (h.other k hk hg)⟩
theorem Ws.trans {w w' w'' : World} {g : Nat} {l l' : List Int} (h : Ws w w' g l) (hb : Ws w' w'' g l') : Ws w w'' g l' :=
  ⟨hb.nb, hb.os.trans h.os, hb.tape.trans h.tape, hb.output.trans h.output, Nat.le_trans h.size hb.size, fun k hk hg => (hb.other k (by have := h.size; omega) hg).trans (h.other k hk hg)⟩
theorem Ws.set {w w' : World} {g : Nat} {l : List Int} (h : Ws w w' g l) (i : Nat) (x : Int) (hi : i < l.length) : Ws w (w'.setCell ⟨g, i, none⟩ (.int .i64 x)) g (l.set i x) :=
  ⟨h.nb.set i x hi, h.os, h.tape, h.output, by have := h.size; simpa [World.setCell] using this, fun k hk hg => by rw [Below.heap_setCell _ _ _ _ hg]; exact h.other k hk hg⟩
theorem Ws.drew {w w' : World} {g : Nat} {l : List Int} (h : Ws w w' g l) : Ws w w'.drew g l := ⟨h.nb, h.os, h.tape, h.output, h.size, h.other⟩
theorem Ws.to {w w' : World} {g : Nat} {l m : List Int} (h : Ws w w' g l) (e : l = m) : Ws w w' g m := e ▸ h
theorem Ws.below {w w' : World} {g : Nat} {l : List Int} (h : Ws w w' g l) {B : Nat} (hB : B ≤ g) (hs : B ≤ w.heap.size) : Below B w w' :=
  ⟨h.os, h.tape, h.output, h.size, fun k hk => h.other k (by omega) (by omega)⟩
/-- Names one behind the other in memory. -/
def SmAt (w : World) (g : Nat) (L : List ByteArray) : Prop := ∀ i nm, L[i]? = some nm → w.cell? ⟨g, i, none⟩ = some (.string nm)
/-- The document's state: the names, and the numbers. -/
abbrev SV (gn gi n cn ci : Nat) : Value := .agg #[.slice (some ⟨gn, 0, none⟩) n cn, .slice (some ⟨gi, 0, none⟩) n ci]
/-- The state in memory. -/
structure SA (w : World) (gn gi n : Nat) (L : List ByteArray) (l : List Int) : Prop where
  nm : SmAt w gn L
  nb : RBk w gi l
  ln : L.length = n
  ll : l.length = n
  hn : n ≤ 100
  ne : gn ≠ gi
  lt : gn < w.heap.size
theorem SA.below {w w' : World} {gn gi n : Nat} {L : List ByteArray} {l : List Int} (h : SA w gn gi n L l) (hb : Below w.heap.size w w') : SA w' gn gi n L l :=
  ⟨fun i nm e => (hb.cell (p := ⟨gn, i, none⟩) h.lt).trans (h.nm i nm e), h.nb.same (hb.block gi h.nb.lt), h.ln, h.ll, h.hn, h.ne, Nat.lt_of_lt_of_le h.lt hb.size⟩
theorem SA.ws {w w' : World} {gn gi n : Nat} {L : List ByteArray} {l l' : List Int} (h : SA w gn gi n L l) (hs : Ws w w' gi l') (hl : l'.length = n) : SA w' gn gi n L l' :=
  ⟨fun i nm e => by rw [World.cell?_of_block (w := w) (a := ⟨gn, i, none⟩) (hs.other gn h.lt h.ne)]; exact h.nm i nm e, hs.nb, h.ln, hl, h.hn, h.ne, Nat.lt_of_lt_of_le h.lt hs.size⟩
theorem tl_ne {x y : ByteArray} (h : x ≠ y) : (x.toList == y.toList) = false := by
  rw [beq_eq_false_iff_ne, ByteArray.toList_eq, ByteArray.toList_eq]
  intro e
  apply h
  cases x; cases y
  simp at e
  rw [e]
/-- A name stands at a place, and at none ahead of it. -/
def At (L : List ByteArray) (nm : ByteArray) (i : Nat) : Prop := L[i]? = some nm ∧ ∀ j, j < i → L[j]? ≠ some nm
set_option maxHeartbeats 1000000 in
theorem at_of (nm : ByteArray) (i gn gi n cn ci : Nat) (L : List ByteArray) (l : List Int) (w : World) (h : SA w gn gi n L l) (hi : At L nm i) :
    Calls Tryd.prog 78 #[SV gn gi n cn ci, .string nm] w fun e w' => e = .returned (.int .i64 i) ∧ Below w.heap.size w w' := by
  have HN : Hid (SmAt w gn L) := h.nm
  have zl := h.lt
  have hn := h.hn
  have il : i < n := by rw [← h.ln]; exact (List.getElem?_eq_some_iff.1 hi.1).1
  have LN : Hid (L.length = n) := h.ln
  have HI : Hid (At L nm i) := hi
  clear h hi
  go_enter Tryd.func78, Tryd.ntmps78
  go_wp2_with fail
  go_loopw [5] (fun v wr => ∃ k : Nat, k ≤ i ∧ v = .int .i64 k ∧ wr = w.alloc (.cells #[.slice (some ⟨gn, 0, none⟩) n cn, .slice (some ⟨gi, 0, none⟩) n ci] 71)) (fun v _ => n - (intOf v).toNat)
  case atStart => exact ⟨0, Nat.zero_le _, rfl, rfl⟩
  case round =>
    obtain ⟨k, hk, rfl, rfl⟩ := hrel
    have kn : (k : Int) < n := by omega
    obtain ⟨x, hx⟩ : ∃ x, L[k]? = some x := ⟨_, List.getElem?_eq_getElem (by rw [LN.out]; omega)⟩
    have d := HN.out k x hx
    have ng : ¬ w.heap.size = gn := by omega
    have ng2 : ¬ gn = w.heap.size := by omega
    have d' := World.new_ne w ⟨gn, k, none⟩ d
    by_cases c : k = i
    · subst c
      have e : x = nm := by have := HI.out.1; rw [hx] at this; exact Option.some.inj this
      subst e
      go_wp2
      go_ret
      exact ⟨rfl, (Below.refl _ _).alloc (Nat.le_refl _) _⟩
    · have e : (x.toList == nm.toList) = false := tl_ne fun e => HI.out.2 k (by omega) (e ▸ hx)
      go_wp2
      exact ⟨⟨k + 1, by omega, by go_num, trivial⟩, by simp [intOf]; omega⟩
set_option maxHeartbeats 1000000 in
theorem is_of (nm : ByteArray) (i gn gi n cn ci : Nat) (L : List ByteArray) (l : List Int) (x : Int) (w : World) (h : SA w gn gi n L l) (hi : At L nm i) (hx : l[i]? = some x) (b : Bool) (hb : (x != 0) = b) :
    Calls Tryd.prog 60 #[SV gn gi n cn ci, .string nm] w fun e w' => e = .returned (.bool b) ∧ Below w.heap.size w w' := by
  have SA0 : Hid (SA w gn gi n L l) := h
  have HI : Hid (At L nm i) := hi
  have il : i < n := by rw [← h.ln]; exact (List.getElem?_eq_some_iff.1 hi.1).1
  have c := h.nb.cell i x hx
  clear h hi
  go_enter Tryd.func60, Tryd.ntmps60
  go_wp2_with fail
  have xb : (w.alloc (.cells #[.slice (some ⟨gn, 0, none⟩) n cn, .slice (some ⟨gi, 0, none⟩) n ci] 71)).cell? ⟨w.heap.size, 0, none⟩ = some (.slice (some ⟨gn, 0, none⟩) n cn) := by simp
  have xc : (w.alloc (.cells #[.slice (some ⟨gn, 0, none⟩) n cn, .slice (some ⟨gi, 0, none⟩) n ci] 71)).cell? ⟨w.heap.size, 1, none⟩ = some (.slice (some ⟨gi, 0, none⟩) n ci) := by simp
  have HW0 : Hid (Below w.heap.size w (w.alloc (.cells #[.slice (some ⟨gn, 0, none⟩) n cn, .slice (some ⟨gi, 0, none⟩) n ci] 71))) := (Below.refl _ _).alloc (Nat.le_refl _) _
  generalize w.alloc (.cells #[.slice (some ⟨gn, 0, none⟩) n cn, .slice (some ⟨gi, 0, none⟩) n ci] 71) = W0 at xb xc HW0 ⊢
  have zb : w.heap.size < W0.heap.size := block_lt_of_cell xb
  have SAW : Hid (SA W0 gn gi n L l) := SA0.out.below HW0.out
  have il' : (i : Int) < n := by omega
  have i0 : (0 : Int) ≤ i := by omega
  have cw := SAW.out.nb.cell i x hx
  have zi := SAW.out.nb.lt
  refine wp_region_sub2 (by kernel_rfl) (by kernel_rfl) ?_
  intro cx
  repeat (first | go_big_quiet_skip | (go_big_quiet_want; go_big_quiet_op; first | go_big_quiet_on | (refine ⟨_, fun _ => rfl, ?_⟩; go_big_quiet_on) | go_big_quiet_call (first | (go_at_call 78; exact calls_sub (at_of _ i gn gi n _ _ L l _ (SAW.out.below (Sub.h _)) HI.out)))))
  refine wpQuiet_nil ?_
  rintro _ ⟨y, rfl⟩
  clear cx
  have BY : Hid (Below W0.heap.size W0 y.w) := y.h
  go_wp2
  go_ret
  exact ⟨by subst hb; rfl, HW0.out.trans (BY.out.mono HW0.out.size)⟩
set_option maxHeartbeats 1000000 in
theorem get_of (nm : ByteArray) (i gn gi n cn ci : Nat) (L : List ByteArray) (l : List Int) (x : Int) (w : World) (h : SA w gn gi n L l) (hi : At L nm i) (hx : l[i]? = some x) :
    Calls Tryd.prog 61 #[SV gn gi n cn ci, .string nm] w fun e w' => e = .returned (.int .i64 x) ∧ Below w.heap.size w w' := by
  have SA0 : Hid (SA w gn gi n L l) := h
  have HI : Hid (At L nm i) := hi
  have il : i < n := by rw [← h.ln]; exact (List.getElem?_eq_some_iff.1 hi.1).1
  have c := h.nb.cell i x hx
  clear h hi
  go_enter Tryd.func61, Tryd.ntmps61
  go_wp2_with fail
  have xb : (w.alloc (.cells #[.slice (some ⟨gn, 0, none⟩) n cn, .slice (some ⟨gi, 0, none⟩) n ci] 71)).cell? ⟨w.heap.size, 0, none⟩ = some (.slice (some ⟨gn, 0, none⟩) n cn) := by simp
  have xc : (w.alloc (.cells #[.slice (some ⟨gn, 0, none⟩) n cn, .slice (some ⟨gi, 0, none⟩) n ci] 71)).cell? ⟨w.heap.size, 1, none⟩ = some (.slice (some ⟨gi, 0, none⟩) n ci) := by simp
  have HW0 : Hid (Below w.heap.size w (w.alloc (.cells #[.slice (some ⟨gn, 0, none⟩) n cn, .slice (some ⟨gi, 0, none⟩) n ci] 71))) := (Below.refl _ _).alloc (Nat.le_refl _) _
  generalize w.alloc (.cells #[.slice (some ⟨gn, 0, none⟩) n cn, .slice (some ⟨gi, 0, none⟩) n ci] 71) = W0 at xb xc HW0 ⊢
  have zb : w.heap.size < W0.heap.size := block_lt_of_cell xb
  have SAW : Hid (SA W0 gn gi n L l) := SA0.out.below HW0.out
  have il' : (i : Int) < n := by omega
  have i0 : (0 : Int) ≤ i := by omega
  have cw := SAW.out.nb.cell i x hx
  have zi := SAW.out.nb.lt
  refine wp_region_sub2 (by kernel_rfl) (by kernel_rfl) ?_
  intro cx
  repeat (first | go_big_quiet_skip | (go_big_quiet_want; go_big_quiet_op; first | go_big_quiet_on | (refine ⟨_, fun _ => rfl, ?_⟩; go_big_quiet_on) | go_big_quiet_call (first | (go_at_call 78; exact calls_sub (at_of _ i gn gi n _ _ L l _ (SAW.out.below (Sub.h _)) HI.out)))))
  refine wpQuiet_nil ?_
  rintro _ ⟨y, rfl⟩
  clear cx
  have BY : Hid (Below W0.heap.size W0 y.w) := y.h
  go_wp2
  go_ret
  exact ⟨rfl, HW0.out.trans (BY.out.mono HW0.out.size)⟩
set_option maxHeartbeats 1000000 in
theorem bitR_of (p : Bool) (w : World) : Calls Tryd.prog 77 #[.bool p] w fun e w' => e = .returned (.int .i64 (tN p)) ∧ w' = w := by
  cases p
  all_goals
    go_enter Tryd.func77, Tryd.ntmps77
    go_wp2
    go_ret
    exact ⟨rfl, rfl⟩
theorem below_stp {wr W w5 : World} (h : Below wr.heap.size wr W) (hb : Below W.heap.size W w5) : Below wr.heap.size wr w5 := h.trans (hb.mono h.size)
set_option maxHeartbeats 1000000 in
theorem put_of (nm : ByteArray) (i gn gi n cn ci : Nat) (L : List ByteArray) (l : List Int) (v : Int) (w : World) (h : SA w gn gi n L l) (hi : At L nm i) :
    Calls Tryd.prog 63 #[SV gn gi n cn ci, .string nm, .int .i64 v] w fun e w' => e = .returned (.tuple #[]) ∧ Ws w w' gi (l.set i v) := by
  have hl := h.ll
  have SA0 : Hid (SA w gn gi n L l) := h
  have HI : Hid (At L nm i) := hi
  have il : i < n := by rw [← h.ln]; exact (List.getElem?_eq_some_iff.1 hi.1).1
  clear h hi
  go_enter Tryd.func63, Tryd.ntmps63
  go_wp2_with fail
  have xb : (w.alloc (.cells #[.slice (some ⟨gn, 0, none⟩) n cn, .slice (some ⟨gi, 0, none⟩) n ci] 71)).cell? ⟨w.heap.size, 0, none⟩ = some (.slice (some ⟨gn, 0, none⟩) n cn) := by simp
  have xc : (w.alloc (.cells #[.slice (some ⟨gn, 0, none⟩) n cn, .slice (some ⟨gi, 0, none⟩) n ci] 71)).cell? ⟨w.heap.size, 1, none⟩ = some (.slice (some ⟨gi, 0, none⟩) n ci) := by simp
  have HW0 : Hid (Below w.heap.size w (w.alloc (.cells #[.slice (some ⟨gn, 0, none⟩) n cn, .slice (some ⟨gi, 0, none⟩) n ci] 71))) := (Below.refl _ _).alloc (Nat.le_refl _) _
  generalize w.alloc (.cells #[.slice (some ⟨gn, 0, none⟩) n cn, .slice (some ⟨gi, 0, none⟩) n ci] 71) = W0 at xb xc HW0 ⊢
  have zb : w.heap.size < W0.heap.size := block_lt_of_cell xb
  have SAW : Hid (SA W0 gn gi n L l) := SA0.out.below HW0.out
  have il' : (i : Int) < n := by omega
  have i0 : (0 : Int) ≤ i := by omega
  have WW : Hid (Ws w W0 gi l) := (Ws.refl SA0.out.nb).step HW0.out
  have zi := SAW.out.nb.lt
  obtain ⟨x, hx⟩ : ∃ x, l[i]? = some x := ⟨_, List.getElem?_eq_getElem (by omega)⟩
  have zw := SA0.out.nb.lt
  have nz1 : ¬ gi = w.heap.size := by omega
  have nz2 : ¬ w.heap.size = gi := by omega
  have BB : Hid (Below W0.heap.size W0 W0) := Below.refl _ _
  go_region_held3 (fun w' => w'.cell? ⟨w.heap.size, 0, none⟩ = some (.slice (some ⟨gn, 0, none⟩) n cn) ∧ w'.cell? ⟨w.heap.size, 1, none⟩ = some (.slice (some ⟨gi, 0, none⟩) n ci)) (go_keep)
    (first | (go_at_call 78; refine (at_of _ i gn gi n _ _ L l _ (SAW.out.below (by first | exact BB.out | exact BB.out.drew)) HI.out).mono ?_; rintro e w3 ⟨rfl, hb3⟩; have BB : Hid (Below W0.heap.size W0 w3) := below_stp (by first | exact BB.out | exact BB.out.drew) hb3; have xb3 := (BB.out.cell (p := ⟨w.heap.size, 0, none⟩) zb).trans xb; have xc3 := (BB.out.cell (p := ⟨w.heap.size, 1, none⟩) zb).trans xc; have fz3 := (SAW.out.below BB.out).nb.free i; have zi3 := (SAW.out.below BB.out).nb.lt; have c3 := (SAW.out.below BB.out).nb.cell i _ hx; clear hb3) | (go_at_call 77; refine (bitR_of _ _).mono ?_; rintro e w4 ⟨rfl, rfl⟩))
  all_goals
    go_end0
    exact ⟨rfl, ((WW.out.step (by first | exact BB.out | exact BB.out.drew)).set i _ (by omega))⟩
set_option maxHeartbeats 1000000 in
theorem say_of (nm : ByteArray) (i gn gi n cn ci : Nat) (L : List ByteArray) (l : List Int) (p : Bool) (w : World) (h : SA w gn gi n L l) (hi : At L nm i) :
    Calls Tryd.prog 59 #[SV gn gi n cn ci, .string nm, .bool p] w fun e w' => e = .returned (.tuple #[]) ∧ Ws w w' gi (l.set i (tN p)) := by
  have hl := h.ll
  have SA0 : Hid (SA w gn gi n L l) := h
  have HI : Hid (At L nm i) := hi
  have il : i < n := by rw [← h.ln]; exact (List.getElem?_eq_some_iff.1 hi.1).1
  clear h hi
  go_enter Tryd.func59, Tryd.ntmps59
  go_wp2_with fail
  have xb : (w.alloc (.cells #[.slice (some ⟨gn, 0, none⟩) n cn, .slice (some ⟨gi, 0, none⟩) n ci] 71)).cell? ⟨w.heap.size, 0, none⟩ = some (.slice (some ⟨gn, 0, none⟩) n cn) := by simp
  have xc : (w.alloc (.cells #[.slice (some ⟨gn, 0, none⟩) n cn, .slice (some ⟨gi, 0, none⟩) n ci] 71)).cell? ⟨w.heap.size, 1, none⟩ = some (.slice (some ⟨gi, 0, none⟩) n ci) := by simp
  have HW0 : Hid (Below w.heap.size w (w.alloc (.cells #[.slice (some ⟨gn, 0, none⟩) n cn, .slice (some ⟨gi, 0, none⟩) n ci] 71))) := (Below.refl _ _).alloc (Nat.le_refl _) _
  generalize w.alloc (.cells #[.slice (some ⟨gn, 0, none⟩) n cn, .slice (some ⟨gi, 0, none⟩) n ci] 71) = W0 at xb xc HW0 ⊢
  have zb : w.heap.size < W0.heap.size := block_lt_of_cell xb
  have SAW : Hid (SA W0 gn gi n L l) := SA0.out.below HW0.out
  have il' : (i : Int) < n := by omega
  have i0 : (0 : Int) ≤ i := by omega
  have WW : Hid (Ws w W0 gi l) := (Ws.refl SA0.out.nb).step HW0.out
  have zi := SAW.out.nb.lt
  obtain ⟨x, hx⟩ : ∃ x, l[i]? = some x := ⟨_, List.getElem?_eq_getElem (by omega)⟩
  have zw := SA0.out.nb.lt
  have nz1 : ¬ gi = w.heap.size := by omega
  have nz2 : ¬ w.heap.size = gi := by omega
  have BB : Hid (Below W0.heap.size W0 W0) := Below.refl _ _
  go_region_held3 (fun w' => w'.cell? ⟨w.heap.size, 0, none⟩ = some (.slice (some ⟨gn, 0, none⟩) n cn) ∧ w'.cell? ⟨w.heap.size, 1, none⟩ = some (.slice (some ⟨gi, 0, none⟩) n ci)) (go_keep)
    (first | (go_at_call 78; refine (at_of _ i gn gi n _ _ L l _ (SAW.out.below (by first | exact BB.out | exact BB.out.drew)) HI.out).mono ?_; rintro e w3 ⟨rfl, hb3⟩; have BB : Hid (Below W0.heap.size W0 w3) := below_stp (by first | exact BB.out | exact BB.out.drew) hb3; have xb3 := (BB.out.cell (p := ⟨w.heap.size, 0, none⟩) zb).trans xb; have xc3 := (BB.out.cell (p := ⟨w.heap.size, 1, none⟩) zb).trans xc; have fz3 := (SAW.out.below BB.out).nb.free i; have zi3 := (SAW.out.below BB.out).nb.lt; have c3 := (SAW.out.below BB.out).nb.cell i _ hx; clear hb3) | (go_at_call 77; refine (bitR_of _ _).mono ?_; rintro e w4 ⟨rfl, rfl⟩))
  all_goals
    go_end0
    exact ⟨rfl, ((WW.out.step (by first | exact BB.out | exact BB.out.drew)).set i _ (by omega))⟩
/-- A state that stands in a box, in a world that came of another one. -/
structure BX (w W : World) (b gn gi n cn ci : Nat) (L : List ByteArray) (l : List Int) : Prop where
  sa : SA W gn gi n L l
  c0 : W.cell? ⟨b, 0, none⟩ = some (.slice (some ⟨gn, 0, none⟩) n cn)
  c1 : W.cell? ⟨b, 1, none⟩ = some (.slice (some ⟨gi, 0, none⟩) n ci)
  ws : Ws w W gi l
  bl : b < W.heap.size
  bn : b ≠ gi
theorem BX.below {w W W' : World} {b gn gi n cn ci : Nat} {L : List ByteArray} {l : List Int} (h : BX w W b gn gi n cn ci L l) (hb : Below W.heap.size W W') : BX w W' b gn gi n cn ci L l :=
  ⟨h.sa.below hb, (hb.cell (p := ⟨b, 0, none⟩) h.bl).trans h.c0, (hb.cell (p := ⟨b, 1, none⟩) h.bl).trans h.c1, h.ws.step hb, Nat.lt_of_lt_of_le h.bl hb.size, h.bn⟩
theorem BX.put {w W W' : World} {b gn gi n cn ci : Nat} {L : List ByteArray} {l l' : List Int} (h : BX w W b gn gi n cn ci L l) (hs : Ws W W' gi l') (hl : l'.length = n) : BX w W' b gn gi n cn ci L l' :=
  ⟨h.sa.ws hs hl, (World.cell?_of_block (w := W) (a := ⟨b, 0, none⟩) (hs.other b h.bl h.bn)).trans h.c0, (World.cell?_of_block (w := W) (a := ⟨b, 1, none⟩) (hs.other b h.bl h.bn)).trans h.c1, h.ws.trans hs, Nat.lt_of_lt_of_le h.bl hs.size, h.bn⟩
theorem BX.new {w : World} {gn gi n : Nat} (cn ci : Nat) {L : List ByteArray} {l : List Int} (h : SA w gn gi n L l) : BX w (w.alloc (.cells #[.slice (some ⟨gn, 0, none⟩) n cn, .slice (some ⟨gi, 0, none⟩) n ci] 71)) w.heap.size gn gi n cn ci L l :=
  have hb : Below w.heap.size w (w.alloc (.cells #[.slice (some ⟨gn, 0, none⟩) n cn, .slice (some ⟨gi, 0, none⟩) n ci] 71)) := (Below.refl _ _).alloc (Nat.le_refl _) _
  ⟨h.below hb, by simp, by simp, (Ws.refl h.nb).step hb, by simp, by have := h.nb.lt; omega⟩
set_option maxHeartbeats 1000000 in
theorem risesR_of (nm nn : ByteArray) (i j gn gi n cn ci : Nat) (L : List ByteArray) (l : List Int) (x y : Int) (w : World) (h : SA w gn gi n L l) (hi : At L nm i) (hx : l[i]? = some x) (hj : At L nn j) (hy : l[j]? = some y) (b c : Bool) (hb : (x != 0) = b) (hc : (y != 0) = c) :
    Calls Tryd.prog 62 #[SV gn gi n cn ci, .string nm, .string nn] w fun e w' => e = .returned (.bool (b && !c)) ∧ Below w.heap.size w w' := by
  have SA0 : Hid (SA w gn gi n L l) := h
  have HI : Hid (At L nm i) := hi
  have HJ : Hid (At L nn j) := hj
  clear h hi hj
  go_enter Tryd.func62, Tryd.ntmps62
  go_wp2_with fail
  have xb : (w.alloc (.cells #[.slice (some ⟨gn, 0, none⟩) n cn, .slice (some ⟨gi, 0, none⟩) n ci] 71)).cell? ⟨w.heap.size, 0, none⟩ = some (.slice (some ⟨gn, 0, none⟩) n cn) := by simp
  have xc : (w.alloc (.cells #[.slice (some ⟨gn, 0, none⟩) n cn, .slice (some ⟨gi, 0, none⟩) n ci] 71)).cell? ⟨w.heap.size, 1, none⟩ = some (.slice (some ⟨gi, 0, none⟩) n ci) := by simp
  have HW0 : Hid (Below w.heap.size w (w.alloc (.cells #[.slice (some ⟨gn, 0, none⟩) n cn, .slice (some ⟨gi, 0, none⟩) n ci] 71))) := (Below.refl _ _).alloc (Nat.le_refl _) _
  generalize w.alloc (.cells #[.slice (some ⟨gn, 0, none⟩) n cn, .slice (some ⟨gi, 0, none⟩) n ci] 71) = W0 at xb xc HW0 ⊢
  have zb : w.heap.size < W0.heap.size := block_lt_of_cell xb
  have SAW : Hid (SA W0 gn gi n L l) := SA0.out.below HW0.out
  refine (is_of nm i gn gi n _ _ L l x _ SAW.out HI.out hx b hb).mono ?_
  rintro e w3 ⟨rfl, hb3⟩
  have B3 : Hid (Below W0.heap.size W0 w3) := hb3
  have xb3 := (hb3.cell (p := ⟨w.heap.size, 0, none⟩) zb).trans xb
  have xc3 := (hb3.cell (p := ⟨w.heap.size, 1, none⟩) zb).trans xc
  clear hb3
  cases b
  · go_wp2
    go_ret
    exact ⟨rfl, HW0.out.trans (B3.out.mono HW0.out.size)⟩
  · go_wp2_with fail
    refine (is_of nn j gn gi n _ _ L l y _ (SAW.out.below B3.out) HJ.out hy c hc).mono ?_
    rintro e w4 ⟨rfl, hb4⟩
    have B4 : Hid (Below W0.heap.size W0 w4) := below_stp B3.out hb4
    clear hb4
    cases c
    all_goals
      go_wp2
      go_ret
      exact ⟨rfl, HW0.out.trans (B4.out.mono HW0.out.size)⟩
end Go.Proofs.YtjnegbjgogkamaaDoor
