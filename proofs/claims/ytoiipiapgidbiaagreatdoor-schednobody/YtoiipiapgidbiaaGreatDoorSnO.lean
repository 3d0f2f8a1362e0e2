/- A resource of nothing: an entry under the lock; no statement of the seat is proved here. -/
import Derived.Test.YtoiipiapgidbiaaGreatDoorSnN
namespace Go.Proofs.YtoiipiapgidbiaaGreatDoor
set_option linter.unusedVariables false
set_option linter.unusedSimpArgs false
open Go.RowKit
open Go.MuLone
/-- Blocks g and b alone have turned. -/
def Keep2 (g b : Nat) (w w' : World) : Prop := (∀ B, B ≤ g → B ≤ b → Below B w w') ∧ w.heap.size ≤ w'.heap.size ∧ ∀ k, k ≠ g → k ≠ b → k < w.heap.size → w'.heap[k]? = w.heap[k]?
theorem Keep.two {g b : Nat} {w w' : World} (h : Keep g w w') : Keep2 g b w w' := ⟨fun B h1 _ => h.1 B h1, h.2.1, fun k h1 _ h2 => h.2.2 k h1 h2⟩
theorem Keep2.row {g b : Nat} {w w' : World} (h : Keep2 g b w w') (cs : Array Value) : Keep2 g b w (w'.setRow b cs) :=
  ⟨fun B h1 h2 => (h.1 B h1 h2).trans (below_setRow (Below.refl _ _) h2 _), by have := h.2.1; simpa [World.setRow] using this, fun k h1 h2 h3 => (setRow_other _ _ _ _ h2).trans (h.2.2 k h1 h2 h3)⟩
theorem Keep2.rs {g b h s : Nat} {a c : World} {x : Int} (k : Keep2 g b a c) (q : RsAt a h s x) (hg : h ≠ g) (hb : h ≠ b) : RsAt c h s x := (k.2.2 h hg hb (blk_in2 q)).trans q
set_option maxRecDepth 20000 in
set_option maxHeartbeats 8000000 in
theorem clo_E (g b1 b2 b3 : Nat) (f : Value) (w : World) (hT : TkAt w g (.slice none 0 0) (.int .i64 0) (.int .i64 2) f) (h1 : w.heap[b1]? = some (.cells #[.int .i64 7] 3 (0, 0))) (h2 : w.heap[b2]? = some (.cells #[.slice none 0 0] 26 (0, 0))) (h3 : w.heap[b3]? = some (.cells zr 42 (0, 0))) (d1 : b1 ≠ g) (d2 : b2 ≠ g) (d3 : b3 ≠ g) (e1 : b1 ≠ b3) (e2 : b2 ≠ b3) :
    Calls Tryz.prog 17 #[.pointer (some ⟨g, 0, none⟩), .pointer (some ⟨b1, 0, none⟩), .pointer (some ⟨b2, 0, none⟩), .pointer (some ⟨b3, 0, none⟩)] w fun e w' => e = .returned (.int .i64 0) ∧ TkAt w' g (.slice none 0 0) (.int .i64 7) (.int .i64 2) (.bool false) ∧ w'.heap[b3]? = some (.cells rz7 42 (0, 0)) ∧ Keep2 g b3 w w' := by
  have HT : Hid (TkAt w g (.slice none 0 0) (.int .i64 0) (.int .i64 2) f) := hT
  have H1 : Hid (w.heap[b1]? = some (.cells #[.int .i64 7] 3 (0, 0))) := h1
  have H2 : Hid (w.heap[b2]? = some (.cells #[.slice none 0 0] 26 (0, 0))) := h2
  have H3 : Hid (w.heap[b3]? = some (.cells zr 42 (0, 0))) := h3
  have D : Hid (b1 ≠ g ∧ b2 ≠ g ∧ b3 ≠ g ∧ b1 ≠ b3 ∧ b2 ≠ b3) := ⟨d1, d2, d3, e1, e2⟩
  have L1 : Hid (b1 < w.heap.size ∧ b2 < w.heap.size ∧ b3 < w.heap.size ∧ g < w.heap.size) := by
    obtain ⟨_, _, _, q⟩ := hT
    exact ⟨blk_in2 h1, blk_in2 h2, blk_in2 h3, blk_in2 q⟩
  clear hT h1 h2 h3 d1 d2 d3 e1 e2
  go_enter Tryz.func17, Tryz.ntmps17
  go_upto_region 1 with fail
  go_cut [5] (fun s wx => s = .int .i64 0 ∧ TkAt wx g (.slice none 0 0) (.int .i64 7) (.int .i64 2) (.bool false) ∧ wx.heap[b3]? = some (.cells rz7 42 (0, 0)) ∧ Keep2 g b3 w wx)
  case first =>
    have cc1 := (pointS w H1.out).1
    have cc2 := (pointS w H2.out).1
    go_wp2_with fail
    refine (entryT_E g f _ HT.out).mono ?_
    rintro e V1 ⟨rfl, ht, hk⟩
    have T1 : Hid (TkAt V1 g (.slice none 0 0) (.int .i64 7) (.int .i64 2) (.bool false)) := ht
    have N3 : Hid (V1.heap[b3]? = some (.cells zr 42 (0, 0))) := (hk.2.2 b3 D.out.2.2.1 (by exact L1.out.2.2.1)).trans H3.out
    have K1 : Hid (Keep2 g b3 w V1) := Keep.two hk
    clear ht hk HT H1 H2 H3 L1 cc1 cc2
    have hX := N3.out
    go_wp2_with (refine wpList_store_row rfl 42 _ _ rfl b3 _ rfl rfl _ _ hX rep_info rfl (by kernel_rfl) ?_)
    go_meet
    case rel => exact ⟨rfl, T1.out.row (Ne.symm D.out.2.2.1) _, setRow_heap _ _ _ _ _ _ hX, K1.out.row _⟩
  case rest =>
    obtain ⟨rfl, hT, hX, hK⟩ := hcut
    have A : Hid (TkAt wc g (.slice none 0 0) (.int .i64 7) (.int .i64 2) (.bool false) ∧ wc.heap[b3]? = some (.cells rz7 42 (0, 0)) ∧ Keep2 g b3 w wc) := ⟨hT, hX, hK⟩
    clear hT hX hK
    go_wp2
    go_ret
    exact ⟨rfl, A.out⟩
end Go.Proofs.YtoiipiapgidbiaaGreatDoor
