/- The formal names of the arguments, of every number's function, and the program's Params; no statement of the seat is proved here. -/
import Derived.Test.YtkanhbokdjppoaaGreatDoorNmE
import Derived.Test.YtkanhbokdjppoaaGreatDoorNmG
import Derived.Test.YtkanhbokdjppoaaGreatDoorStdG
namespace Go.Proofs.YtkanhbokdjppoaaGreatDoor
set_option linter.unusedVariables false
open Go.RowKit
theorem fldS0 : FldOk ⟨#[]⟩ 0 (nmsF []) where
  small := by decide
  ascii := by intro j b h; simp at h
  len := by kernel_rfl
  at_ := by intro i hi; omega
/-- The formal names that a function has at least, and the number of the next one (0: none). -/
def pmT (k : Nat) : List ByteArray × Nat := match k with
  | 1 => ([⟨#[73, 78, 49]⟩, ⟨#[73, 78, 50]⟩], 3)
  | 2 => ([⟨#[73, 78, 49]⟩, ⟨#[73, 78, 50]⟩], 0)
  | 3 => ([⟨#[73, 78, 49]⟩, ⟨#[73, 78, 50]⟩], 3)
  | 4 => ([⟨#[73, 78, 49]⟩, ⟨#[73, 78, 50]⟩], 0)
  | 5 => ([⟨#[73, 78, 49]⟩, ⟨#[73, 78, 50]⟩], 0)
  | 6 => ([⟨#[73, 78, 49]⟩, ⟨#[73, 78, 50]⟩], 3)
  | 7 => ([⟨#[73, 78, 49]⟩, ⟨#[73, 78, 50]⟩], 3)
  | 8 => ([⟨#[73, 78, 49]⟩, ⟨#[73, 78, 50]⟩], 3)
  | 9 => ([⟨#[73, 78]⟩], 0)
  | 10 => ([⟨#[73, 78, 49]⟩, ⟨#[73, 78, 50]⟩], 3)
  | 11 => ([⟨#[73, 78, 49]⟩, ⟨#[73, 78, 50]⟩], 0)
  | 12 => ([⟨#[73, 78, 49]⟩, ⟨#[73, 78, 50]⟩], 3)
  | 13 => ([⟨#[73, 78, 49]⟩, ⟨#[73, 78, 50]⟩], 3)
  | 14 => ([⟨#[73, 78, 49]⟩, ⟨#[73, 78, 50]⟩], 3)
  | 15 => ([⟨#[73, 78, 49]⟩, ⟨#[73, 78, 50]⟩], 3)
  | 16 => ([⟨#[73, 78]⟩], 0)
  | 17 => ([⟨#[73, 78]⟩], 0)
  | 18 => ([⟨#[73, 78, 49]⟩, ⟨#[73, 78, 50]⟩], 3)
  | 19 => ([⟨#[73, 78, 49]⟩, ⟨#[73, 78, 50]⟩], 3)
  | 20 => ([⟨#[77, 78]⟩, ⟨#[73, 78]⟩, ⟨#[77, 88]⟩], 0)
  | 21 => ([⟨#[71]⟩, ⟨#[73, 78, 48]⟩, ⟨#[73, 78, 49]⟩], 0)
  | 22 => ([⟨#[75]⟩, ⟨#[73, 78, 48]⟩], 1)
  | 23 => ([⟨#[73, 78]⟩, ⟨#[78]⟩], 0)
  | 24 => ([⟨#[73, 78]⟩, ⟨#[78]⟩], 0)
  | 25 => ([⟨#[73, 78]⟩, ⟨#[78]⟩], 0)
  | 26 => ([⟨#[73, 78]⟩, ⟨#[78]⟩], 0)
  | 27 => ([⟨#[73, 78]⟩], 0)
  | 28 => ([⟨#[73, 78]⟩, ⟨#[76]⟩], 0)
  | 29 => ([⟨#[73, 78]⟩, ⟨#[76]⟩], 0)
  | 30 => ([⟨#[73, 78]⟩, ⟨#[76]⟩, ⟨#[80]⟩], 0)
  | 31 => ([⟨#[73, 78, 49]⟩, ⟨#[73, 78, 50]⟩], 3)
  | 32 => ([⟨#[73, 78, 49]⟩, ⟨#[73, 78, 50]⟩, ⟨#[80]⟩], 0)
  | 33 => ([⟨#[73, 78]⟩, ⟨#[76]⟩, ⟨#[80]⟩], 0)
  | 34 => ([⟨#[73, 78, 49]⟩, ⟨#[73, 78, 50]⟩, ⟨#[76]⟩, ⟨#[80]⟩], 0)
  | 35 => ([⟨#[73, 78, 49]⟩, ⟨#[73, 78, 50]⟩], 0)
  | 36 => ([⟨#[73, 78]⟩], 0)
  | _ => ([], 0)
def pmA (z : Int) : List ByteArray × Nat := if 1 ≤ z ∧ z ≤ 36 then pmT z.toNat else if 65 ≤ z ∧ z ≤ 83 then ([⟨#[73, 78]⟩], 0) else ([], 0)
/-- A function's formal names are such. -/
structure PmOk (f : Fu) (l : List ByteArray) (x : Nat) : Prop where
  fld : FldOk f.fm l.length (nmsF l)
  nx : f.nx = x
  few : x ≤ 10
  le : l.length ≤ 4
theorem pm_T (k : Nat) (h : k < 37) : PmOk (fuT k) (pmT k).1 (pmT k).2 := by
  match k, h with
  | 0, _ => exact ⟨fldS0, rfl, by decide, by decide⟩
  | 1, _ => exact ⟨fldS1, rfl, by decide, by decide⟩
  | 2, _ => exact ⟨fldS1, rfl, by decide, by decide⟩
  | 3, _ => exact ⟨fldS1, rfl, by decide, by decide⟩
  | 4, _ => exact ⟨fldS1, rfl, by decide, by decide⟩
  | 5, _ => exact ⟨fldS1, rfl, by decide, by decide⟩
  | 6, _ => exact ⟨fldS1, rfl, by decide, by decide⟩
  | 7, _ => exact ⟨fldS1, rfl, by decide, by decide⟩
  | 8, _ => exact ⟨fldS1, rfl, by decide, by decide⟩
  | 9, _ => exact ⟨fldS2, rfl, by decide, by decide⟩
  | 10, _ => exact ⟨fldS1, rfl, by decide, by decide⟩
  | 11, _ => exact ⟨fldS1, rfl, by decide, by decide⟩
  | 12, _ => exact ⟨fldS1, rfl, by decide, by decide⟩
  | 13, _ => exact ⟨fldS1, rfl, by decide, by decide⟩
  | 14, _ => exact ⟨fldS1, rfl, by decide, by decide⟩
  | 15, _ => exact ⟨fldS1, rfl, by decide, by decide⟩
  | 16, _ => exact ⟨fldS2, rfl, by decide, by decide⟩
  | 17, _ => exact ⟨fldS2, rfl, by decide, by decide⟩
  | 18, _ => exact ⟨fldS1, rfl, by decide, by decide⟩
  | 19, _ => exact ⟨fldS1, rfl, by decide, by decide⟩
  | 20, _ => exact ⟨fldS3, rfl, by decide, by decide⟩
  | 21, _ => exact ⟨fldS4, rfl, by decide, by decide⟩
  | 22, _ => exact ⟨fldS5, rfl, by decide, by decide⟩
  | 23, _ => exact ⟨fldS6, rfl, by decide, by decide⟩
  | 24, _ => exact ⟨fldS6, rfl, by decide, by decide⟩
  | 25, _ => exact ⟨fldS6, rfl, by decide, by decide⟩
  | 26, _ => exact ⟨fldS6, rfl, by decide, by decide⟩
  | 27, _ => exact ⟨fldS2, rfl, by decide, by decide⟩
  | 28, _ => exact ⟨fldS7, rfl, by decide, by decide⟩
  | 29, _ => exact ⟨fldS7, rfl, by decide, by decide⟩
  | 30, _ => exact ⟨fldS8, rfl, by decide, by decide⟩
  | 31, _ => exact ⟨fldS1, rfl, by decide, by decide⟩
  | 32, _ => exact ⟨fldS9, rfl, by decide, by decide⟩
  | 33, _ => exact ⟨fldS8, rfl, by decide, by decide⟩
  | 34, _ => exact ⟨fldS10, rfl, by decide, by decide⟩
  | 35, _ => exact ⟨fldS1, rfl, by decide, by decide⟩
  | 36, _ => exact ⟨fldS2, rfl, by decide, by decide⟩
  | n + 37, h => omega
theorem pm_A (z : Int) : PmOk (fuA z) (pmA z).1 (pmA z).2 := by
  unfold fuA pmA
  split
  · exact pm_T _ (by omega)
  · split
    · exact ⟨fldS2, rfl, by decide, by decide⟩
    · exact ⟨fldS0, rfl, by decide, by decide⟩
/-- What a function with such formal names answers for so many arguments. -/
def PmX (w : World) (l : List ByteArray) (x : Nat) (n : Int) (e : Ending) (w' : World) : Prop :=
  (ctB x l.length n = true ∧ PmR w n.toNat (pnF l.length x (nmsF l)) e w') ∨ (ctB x l.length n = false ∧ e = .returned (.slice none 0 0) ∧ Below w.heap.size w w')
theorem PmR.up {w w1 : World} {n : Nat} {p : Nat → ByteArray} {e : Ending} {w' : World} (h : PmR w1 n p e w') (hb : Below w.heap.size w w1) : PmR w n p e w' := by
  obtain ⟨g, cap, he, hg, hr, hB⟩ := h
  have := hb.size
  exact ⟨g, cap, he, by omega, hr, hb.trans (hB.mono this)⟩
set_option maxRecDepth 20000 in
set_option maxHeartbeats 2000000 in
theorem Params_of (s : ByteArray) (z y n : Int) (w : World) (hk : KW w) (ht : Asc w)
    (hN : Calls Tryz.prog 22 #[.string s] w fun e w' => e = .returned (.tuple #[.int .i64 z, .int .u8 y]) ∧ Below w.heap.size w w') :
    Calls Tryz.prog 11 #[.string s, .int .i64 n] w (PmX w (pmA z).1 (pmA z).2 n) := by
  have N : Hid _ := hN
  have NB : Hid _ := fun w hw => numbered_any z w hw
  have HP : Hid (PmOk (fuA z) (pmA z).1 (pmA z).2) := pm_A z
  have HK : Hid (KW w) := hk
  have HT : Hid (Asc w) := ht
  clear hk hN ht
  generalize fuA z = f at *
  generalize (pmA z).1 = l at *
  generalize (pmA z).2 = x at *
  obtain ⟨nm, fm, nx, hw, tk, gv⟩ := f
  obtain rfl : nx = x := HP.out.nx
  have CT : Hid _ := fun w ht => counts_of nm fm x hw tk gv n l.length (nmsF l) w HP.out.fld ht
  rcases hc : ctB x l.length n with _ | _
  · cases tk <;> cases gv
    all_goals
      go_enter Tryz.func11, Tryz.ntmps11
      go_wp2_with (first
      | (go_at_call 22; refine Calls.mono N.out ?_; rintro e w1 ⟨rfl, hb⟩; have B1 : Hid (Below w.heap.size w w1) := hb; clear hb)
      | (go_at_call 23; refine (NB.out _ (HK.out.next B1.out)).mono ?_; rintro e w2 ⟨rfl, hb⟩; have B2 : Hid (Below w.heap.size w w2) := B1.out.trans (hb.mono B1.out.size); clear hb)
      | (refine wpList_store_row rfl 54 _ _ rfl w2.heap.size _ rfl rfl _ _ (heap_alloc_last w2 _) fun_info rfl (by kernel_rfl) ?_; rw [World.setRow_alloc_new])
      | (go_at_call 27; refine (CT.out _ (HT.out.below (B2.out.alloc B2.out.size _))).mono ?_; rintro e w3 ⟨rfl, hb⟩; have B3 : Hid (Below w.heap.size w w3) := (B2.out.alloc B2.out.size _).trans (hb.mono (by have := B2.out.size; simp; omega)); rw [hc]; obtain ⟨q, fq⟩ := bcell hb; have q0 := q w2.heap.size 0 (by simp); have q1 := q w2.heap.size 1 (by simp); have q2 := q w2.heap.size 2 (by simp); have q3 := q w2.heap.size 3 (by simp); have q4 := q w2.heap.size 4 (by simp); have q5 := q w2.heap.size 5 (by simp); simp at q0 q1 q2 q3 q4 q5; clear hb q fq))
      go_ret
      exact .inr ⟨hc, rfl, B3.out⟩
  · have cz : 0 < l.length ∧ (l.length : Int) ≤ n ∧ n ≤ 16 := by
      have := HP.out.le
      have h := hc
      simp [ctB] at h
      omega
    obtain ⟨m, rfl⟩ : ∃ m : Nat, n = m := ⟨n.toNat, by omega⟩
    have PM : Hid _ := fun w ht => params_of nm fm x hw tk gv m l.length (nmsF l) w HP.out.fld ht cz.1 (by omega) (by omega) HP.out.few
    cases tk <;> cases gv
    all_goals
      go_enter Tryz.func11, Tryz.ntmps11
      go_wp2_with (first
      | (go_at_call 22; refine Calls.mono N.out ?_; rintro e w1 ⟨rfl, hb⟩; have B1 : Hid (Below w.heap.size w w1) := hb; clear hb)
      | (go_at_call 23; refine (NB.out _ (HK.out.next B1.out)).mono ?_; rintro e w2 ⟨rfl, hb⟩; have B2 : Hid (Below w.heap.size w w2) := B1.out.trans (hb.mono B1.out.size); clear hb)
      | (refine wpList_store_row rfl 54 _ _ rfl w2.heap.size _ rfl rfl _ _ (heap_alloc_last w2 _) fun_info rfl (by kernel_rfl) ?_; rw [World.setRow_alloc_new])
      | (go_at_call 27; refine (CT.out _ (HT.out.below (B2.out.alloc B2.out.size _))).mono ?_; rintro e w3 ⟨rfl, hb⟩; have B3 : Hid (Below w.heap.size w w3) := (B2.out.alloc B2.out.size _).trans (hb.mono (by have := B2.out.size; simp; omega)); rw [hc]; obtain ⟨q, fq⟩ := bcell hb; have q0 := q w2.heap.size 0 (by simp); have q1 := q w2.heap.size 1 (by simp); have q2 := q w2.heap.size 2 (by simp); have q3 := q w2.heap.size 3 (by simp); have q4 := q w2.heap.size 4 (by simp); have q5 := q w2.heap.size 5 (by simp); simp at q0 q1 q2 q3 q4 q5; clear hb q fq)
      | (go_at_call 28; refine (PM.out _ (HT.out.below B3.out)).mono ?_; rintro e w4 ⟨g, cap, rfl, hg, hr, hb⟩; have R4 : Hid (PmR w m (pnF l.length x (nmsF l)) (.returned (.slice (some ⟨g, 0, none⟩) m cap)) w4) := PmR.up ⟨g, cap, rfl, hg, hr, hb⟩ B3.out; clear hg hr hb))
      go_ret
      exact .inl ⟨hc, R4.out⟩
end Go.Proofs.YtkanhbokdjppoaaGreatDoor
