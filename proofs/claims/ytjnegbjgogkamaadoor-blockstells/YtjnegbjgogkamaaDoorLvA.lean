/- How many inputs a block has, and inputs put into cells, of the statement's own functions; no statement of the seat is proved here. -/
import Derived.Test.YtjnegbjgogkamaaDoorTlC
import Derived.Deep.DeepCutAuto
namespace Go.Proofs.YtjnegbjgogkamaaDoor
set_option linter.unusedVariables false
open Go.RowKit
/-- How many of the first variables are inputs. -/
def insN (cl : Nat → Int) : Nat → Nat
  | 0 => 0
  | k + 1 => insN cl k + (if cl k = 1 then 1 else 0)
theorem insN_le (cl : Nat → Int) (k : Nat) : insN cl k ≤ k := by
  induction k with
  | zero => exact Nat.le_refl _
  | succ k ih => unfold insN; split <;> omega
theorem var_info : (Tryd.prog.info? 59).map (·.size) = some 16 := by kernel_rfl
set_option maxRecDepth 20000 in
set_option maxHeartbeats 4000000 in
theorem ins_of (K : Int) (n : Nat) (cl : Nat → Int) (w : World) (hn2 : n ≤ 100) (hV : Calls Tryd.prog 14 #[.int .i64 K] w fun e w' => ∃ g c, e = .returned (.slice (some ⟨g, 0, none⟩) n c) ∧ w.heap.size ≤ g ∧ (∃ vf, VrAt w' g n vf ∧ vf.cl = cl ∧ ∀ i, i < n → ∃ x m l, vf.ini i = .slice x m l) ∧ Below w.heap.size w w') :
    Calls Tryd.prog 20 #[.int .i64 K] w fun e w' => e = .returned (.int .i64 (insN cl n)) ∧ Below w.heap.size w w' := by
  go_enter Tryd.func20, Tryd.ntmps20
  go_wp2_with fail
  refine hV.mono ?_
  rintro e w2 ⟨g, c, rfl, hg, ⟨vf, hr, hc, hs⟩, hb⟩
  have HB2 : Hid (Below w.heap.size w w2) := hb
  have HR : Hid (VrAt w2 g n vf) := hr
  have HC : Hid (vf.cl = cl) := hc
  have HS : Hid (∀ i, i < n → ∃ x m l, vf.ini i = .slice x m l) := hs
  clear hb hr hV hc hs
  go_wp2_with fail
  go_loopw [3, 9] (fun v i wr => ∃ k : Nat, k ≤ n ∧ i = .int .i64 k ∧ v = .int .i64 (insN cl k) ∧ Below w2.heap.size w2 wr) (fun _ i _ => n - (intOf i).toNat)
  case atStart => exact ⟨0, Nat.zero_le _, rfl, rfl, Below.refl _ _⟩
  case round =>
    obtain ⟨k, hk, rfl, rfl, hb⟩ := hrel
    have HB : Hid (Below w2.heap.size w2 wr) := hb
    have zr := hb.size
    by_cases hlt : k < n
    · have h1 := (HR.out.below hb).cells k hlt
      obtain ⟨x, m, l, i1⟩ := HS.out k hlt
      rw [i1, HC.out] at h1
      obtain ⟨e0, e1, e2, e3, e4, e5, e6, e7, e8, e9, e10, e11, e12, e13, e14, e15⟩ := h1
      have zg : g < wr.heap.size := block_lt_of_cell e0
      have hlt' : (k : Int) < n := by omega
      have hle := insN_le cl k
      clear hb i1
      by_cases c1 : cl k = 1
      · have N : Hid (insN cl (k + 1) = insN cl k + 1) := by show _ = _; rw [insN, if_pos c1]
        rw [c1] at e2
        go_wp2_with (refine wpList_store_row rfl 59 _ _ rfl wr.heap.size _ rfl rfl _ _ (heap_alloc_last wr _) var_info rfl (by kernel_rfl) ?_; rw [World.setRow_alloc_new])
        exact ⟨⟨k + 1, by omega, by go_num, by rw [N.out]; go_num, HB.out.alloc zr _⟩, by simp [intOf]; omega⟩
      · have N : Hid (insN cl (k + 1) = insN cl k) := by show _ = _; rw [insN, if_neg c1]; rfl
        have c2 : (cl k == 1) = false := by simpa using c1
        go_wp2_with (refine wpList_store_row rfl 59 _ _ rfl wr.heap.size _ rfl rfl _ _ (heap_alloc_last wr _) var_info rfl (by kernel_rfl) ?_; rw [World.setRow_alloc_new])
        exact ⟨⟨k + 1, by omega, by go_num, by rw [N.out], HB.out.alloc zr _⟩, by simp [intOf]; omega⟩
    · have ek : k = n := by omega
      subst ek
      clear hb
      go_wp2
      go_ret
      exact ⟨rfl, HB2.out.trans (HB.out.mono HB2.out.size)⟩
end Go.Proofs.YtjnegbjgogkamaaDoor
