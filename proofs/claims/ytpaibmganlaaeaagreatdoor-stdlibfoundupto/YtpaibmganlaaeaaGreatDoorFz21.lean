/- What named answers for a name that is none of the table's; no statement of the seat is proved here. -/
import Derived.Test.YtpaibmganlaaeaaGreatDoorFz20
import Derived.Test.YtpaibmganlaaeaaGreatDoorFz02
import Derived.Test.YtpaibmganlaaeaaGreatDoorFz17
import Derived.Test.YtpaibmganlaaeaaGreatDoorFz18
import Derived.Test.YtpaibmganlaaeaaGreatDoorFz01
import Derived.Below
import Derived.Test.YtpaibmganlaaeaaGreatDoorCu
namespace Go.Proofs.YtpaibmganlaaeaaGreatDoor
set_option linter.unusedVariables false
open Go.RowKit
theorem fldS0 : FldOk ⟨#[]⟩ 0 (nmsF []) where
  small := by decide
  ascii := by intro j b h; simp at h
  len := by kernel_rfl
  at_ := by intro i hi; omega
/-- The formal names that a function has at least, and the number of the next one (0: none). -/
def pmT (k : Nat) : List ByteArray × Nat := match k with
  | 1 => ([⟨#[73, 78, 49]⟩, ⟨#[73, 78, 50]⟩], 3)
  | 2 => ([⟨#[73, 78, 49]⟩, ⟨#[73, 78, 50]⟩], 0)
  | 3 => ([⟨#[73, 78, 49]⟩, ⟨#[73, 78, 50]⟩], 3)
  | 4 => ([⟨#[73, 78, 49]⟩, ⟨#[73, 78, 50]⟩], 0)
  | 5 => ([⟨#[73, 78, 49]⟩, ⟨#[73, 78, 50]⟩], 0)
  | 6 => ([⟨#[73, 78, 49]⟩, ⟨#[73, 78, 50]⟩], 3)
  | 7 => ([⟨#[73, 78, 49]⟩, ⟨#[73, 78, 50]⟩], 3)
  | 8 => ([⟨#[73, 78, 49]⟩, ⟨#[73, 78, 50]⟩], 3)
  | 9 => ([⟨#[73, 78]⟩], 0)
  | 10 => ([⟨#[73, 78, 49]⟩, ⟨#[73, 78, 50]⟩], 3)
  | 11 => ([⟨#[73, 78, 49]⟩, ⟨#[73, 78, 50]⟩], 0)
  | 12 => ([⟨#[73, 78, 49]⟩, ⟨#[73, 78, 50]⟩], 3)
  | 13 => ([⟨#[73, 78, 49]⟩, ⟨#[73, 78, 50]⟩], 3)
  | 14 => ([⟨#[73, 78, 49]⟩, ⟨#[73, 78, 50]⟩], 3)
  | 15 => ([⟨#[73, 78, 49]⟩, ⟨#[73, 78, 50]⟩], 3)
  | 16 => ([⟨#[73, 78]⟩], 0)
  | 17 => ([⟨#[73, 78]⟩], 0)
  | 18 => ([⟨#[73, 78, 49]⟩, ⟨#[73, 78, 50]⟩], 3)
  | 19 => ([⟨#[73, 78, 49]⟩, ⟨#[73, 78, 50]⟩], 3)
  | 20 => ([⟨#[77, 78]⟩, ⟨#[73, 78]⟩, ⟨#[77, 88]⟩], 0)
  | 21 => ([⟨#[71]⟩, ⟨#[73, 78, 48]⟩, ⟨#[73, 78, 49]⟩], 0)
  | 22 => ([⟨#[75]⟩, ⟨#[73, 78, 48]⟩], 1)
  | 23 => ([⟨#[73, 78]⟩, ⟨#[78]⟩], 0)
  | 24 => ([⟨#[73, 78]⟩, ⟨#[78]⟩], 0)
  | 25 => ([⟨#[73, 78]⟩, ⟨#[78]⟩], 0)
  | 26 => ([⟨#[73, 78]⟩, ⟨#[78]⟩], 0)
  | 27 => ([⟨#[73, 78]⟩], 0)
  | 28 => ([⟨#[73, 78]⟩, ⟨#[76]⟩], 0)
  | 29 => ([⟨#[73, 78]⟩, ⟨#[76]⟩], 0)
  | 30 => ([⟨#[73, 78]⟩, ⟨#[76]⟩, ⟨#[80]⟩], 0)
  | 31 => ([⟨#[73, 78, 49]⟩, ⟨#[73, 78, 50]⟩], 3)
  | 32 => ([⟨#[73, 78, 49]⟩, ⟨#[73, 78, 50]⟩, ⟨#[80]⟩], 0)
  | 33 => ([⟨#[73, 78]⟩, ⟨#[76]⟩, ⟨#[80]⟩], 0)
  | 34 => ([⟨#[73, 78, 49]⟩, ⟨#[73, 78, 50]⟩, ⟨#[76]⟩, ⟨#[80]⟩], 0)
  | 35 => ([⟨#[73, 78, 49]⟩, ⟨#[73, 78, 50]⟩], 0)
  | 36 => ([⟨#[73, 78]⟩], 0)
  | _ => ([], 0)
def pmA (z : Int) : List ByteArray × Nat := if 1 ≤ z ∧ z ≤ 36 then pmT z.toNat else if 65 ≤ z ∧ z ≤ 83 then ([⟨#[73, 78]⟩], 0) else ([], 0)
/-- A function's formal names are such. -/
structure PmOk (f : Fu) (l : List ByteArray) (x : Nat) : Prop where
  fld : FldOk f.fm l.length (nmsF l)
  nx : f.nx = x
  few : x ≤ 10
  le : l.length ≤ 4
theorem pm_T (k : Nat) (h : k < 37) : PmOk (fuT k) (pmT k).1 (pmT k).2 := by
  match k, h with
  | 0, _ => exact ⟨fldS0, rfl, by decide, by decide⟩
  | 1, _ => exact ⟨fldS1, rfl, by decide, by decide⟩
  | 2, _ => exact ⟨fldS1, rfl, by decide, by decide⟩
  | 3, _ => exact ⟨fldS1, rfl, by decide, by decide⟩
  | 4, _ => exact ⟨fldS1, rfl, by decide, by decide⟩
  | 5, _ => exact ⟨fldS1, rfl, by decide, by decide⟩
  | 6, _ => exact ⟨fldS1, rfl, by decide, by decide⟩
  | 7, _ => exact ⟨fldS1, rfl, by decide, by decide⟩
  | 8, _ => exact ⟨fldS1, rfl, by decide, by decide⟩
  | 9, _ => exact ⟨fldS2, rfl, by decide, by decide⟩
  | 10, _ => exact ⟨fldS1, rfl, by decide, by decide⟩
  | 11, _ => exact ⟨fldS1, rfl, by decide, by decide⟩
  | 12, _ => exact ⟨fldS1, rfl, by decide, by decide⟩
  | 13, _ => exact ⟨fldS1, rfl, by decide, by decide⟩
  | 14, _ => exact ⟨fldS1, rfl, by decide, by decide⟩
  | 15, _ => exact ⟨fldS1, rfl, by decide, by decide⟩
  | 16, _ => exact ⟨fldS2, rfl, by decide, by decide⟩
  | 17, _ => exact ⟨fldS2, rfl, by decide, by decide⟩
  | 18, _ => exact ⟨fldS1, rfl, by decide, by decide⟩
  | 19, _ => exact ⟨fldS1, rfl, by decide, by decide⟩
  | 20, _ => exact ⟨fldS3, rfl, by decide, by decide⟩
  | 21, _ => exact ⟨fldS4, rfl, by decide, by decide⟩
  | 22, _ => exact ⟨fldS5, rfl, by decide, by decide⟩
  | 23, _ => exact ⟨fldS6, rfl, by decide, by decide⟩
  | 24, _ => exact ⟨fldS6, rfl, by decide, by decide⟩
  | 25, _ => exact ⟨fldS6, rfl, by decide, by decide⟩
  | 26, _ => exact ⟨fldS6, rfl, by decide, by decide⟩
  | 27, _ => exact ⟨fldS2, rfl, by decide, by decide⟩
  | 28, _ => exact ⟨fldS7, rfl, by decide, by decide⟩
  | 29, _ => exact ⟨fldS7, rfl, by decide, by decide⟩
  | 30, _ => exact ⟨fldS8, rfl, by decide, by decide⟩
  | 31, _ => exact ⟨fldS1, rfl, by decide, by decide⟩
  | 32, _ => exact ⟨fldS9, rfl, by decide, by decide⟩
  | 33, _ => exact ⟨fldS8, rfl, by decide, by decide⟩
  | 34, _ => exact ⟨fldS10, rfl, by decide, by decide⟩
  | 35, _ => exact ⟨fldS1, rfl, by decide, by decide⟩
  | 36, _ => exact ⟨fldS2, rfl, by decide, by decide⟩
  | n + 37, h => omega
theorem pm_A (z : Int) : PmOk (fuA z) (pmA z).1 (pmA z).2 := by
  unfold fuA pmA
  split
  · exact pm_T _ (by omega)
  · split
    · exact ⟨fldS2, rfl, by decide, by decide⟩
    · exact ⟨fldS0, rfl, by decide, by decide⟩
end Go.Proofs.YtpaibmganlaaeaaGreatDoor
namespace Go.Proofs.YtpaibmganlaaeaaGreatDoor
set_option linter.unusedVariables false
open Go.RowKit
/-- Does a function take so many arguments? -/
def ctB (nx : Int) (c : Nat) (n : Int) : Bool := decide (0 < c) && (n == c || (decide (0 < nx) && decide ((c : Int) < n) && decide (n ≤ 16)))
section
variable (nm fm : ByteArray) (nx hw : Int) (tk gv : Option Nat)
set_option maxHeartbeats 1000000 in
theorem counts_of (n : Int) (c : Nat) (nms : Nat → ByteArray) (w : World) (h : FldOk fm c nms) (ht : Asc w) :
    Calls Tryz.prog 25 #[FV ⟨nm, fm, nx, hw, tk, gv⟩, .int .i64 n] w fun e w' => e = .returned (.bool (ctB nx c n)) ∧ Below w.heap.size w w' := by
  have H : Hid _ := h
  have HT : Hid (Asc w) := ht
  clear h ht
  cases tk <;> cases gv
  all_goals
    go_enter Tryz.func25, Tryz.ntmps25
    go_wp2_with (first | (go_at_call 74; refine (Fields_of _ c nms _ H.out (HT.out.below ((Below.refl _ _).alloc (Nat.le_refl _) _))).mono ?_; rintro e w2 ⟨rfl, hnm, hw2, hb⟩; have HB : Hid (Below w.heap.size w w2) := ((Below.refl _ _).alloc (Nat.le_refl _) _).trans (hb.mono (by simp)); obtain ⟨q, fq⟩ := bcell hb; have q2 := q w.heap.size 2 (by simp); simp at q2; clear hb hnm hw2 q fq))
    all_goals
      go_ret
      exact ⟨ret_bool (by rw [Bool.eq_iff_iff]; simp [ctB]; omega), HB.out⟩
theorem counts_is (n : Int) (c : Nat) (nms : Nat → ByteArray) (w : World) (p : Bool) (h : FldOk fm c nms) (ht : Asc w) (hp : ctB nx c n = p) :
    Calls Tryz.prog 25 #[FV ⟨nm, fm, nx, hw, tk, gv⟩, .int .i64 n] w fun e w' => e = .returned (.bool p) ∧ Below w.heap.size w w' := by subst hp; exact counts_of nm fm nx hw tk gv n c nms w h ht
set_option maxHeartbeats 1000000 in
theorem outcome_no (a : Option Addr) (n cap c : Nat) (nms : Nat → ByteArray) (w : World) (h : FldOk fm c nms) (ht : Asc w) (hc : ctB nx c n = false) :
    Calls Tryz.prog 12 #[FV ⟨nm, fm, nx, hw, tk, gv⟩, .slice a n cap] w fun e w' => e = .returned (.int .u8 0) ∧ Below w.heap.size w w' := by
  have C : Hid (∀ w, Asc w → Calls Tryz.prog 25 #[FV ⟨nm, fm, nx, hw, tk, gv⟩, .int .i64 n] w fun e w' => e = .returned (.bool false) ∧ Below w.heap.size w w') := fun w ht => counts_is nm fm nx hw tk gv n c nms w false h ht hc
  have HT : Hid (Asc w) := ht
  clear h ht hc
  cases tk <;> cases gv
  all_goals
    go_enter Tryz.func12, Tryz.ntmps12
    go_wp2_with (first | (go_at_call 25; refine (C.out _ (HT.out.below ((Below.refl _ _).alloc (Nat.le_refl _) _))).mono ?_; rintro e w2 ⟨rfl, hb⟩; have HB : Hid (Below w.heap.size w w2) := ((Below.refl _ _).alloc (Nat.le_refl _) _).trans (hb.mono (by simp)); clear hb))
    go_ret
    exact ⟨rfl, HB.out⟩
set_option maxHeartbeats 1000000 in
theorem outcome_yes (f : Nat) (R : Int) (a : Option Addr) (n cap c : Nat) (nms : Nat → ByteArray) (w : World) (h : FldOk fm c nms) (ht : Asc w) (hc : ctB nx c n = true)
    (hF : ∀ W, Below w.heap.size w W → Calls Tryz.prog f #[.int .i64 hw, .slice a n cap] W fun e w' => e = .returned (.int .u8 R) ∧ Below W.heap.size W w')
    (hC : ∀ args w, (callFunc f args).run Tryz.prog w = .ok (.enter f args) w) :
    Calls Tryz.prog 12 #[FV ⟨nm, fm, nx, hw, some f, gv⟩, .slice a n cap] w fun e w' => e = .returned (.int .u8 R) ∧ Below w.heap.size w w' := by
  have C : Hid (∀ w, Asc w → Calls Tryz.prog 25 #[FV ⟨nm, fm, nx, hw, some f, gv⟩, .int .i64 n] w fun e w' => e = .returned (.bool true) ∧ Below w.heap.size w w') := fun w ht => counts_is nm fm nx hw (some f) gv n c nms w true h ht hc
  have HT : Hid (Asc w) := ht
  have HF : Hid _ := hF
  clear h ht hc hF
  cases gv
  all_goals
    go_enter Tryz.func12, Tryz.ntmps12
    go_wp2_with (first | (go_at_call 25; refine (C.out _ (HT.out.below ((Below.refl _ _).alloc (Nat.le_refl _) _))).mono ?_; rintro e w2 ⟨rfl, hb⟩; have HB : Hid (Below w.heap.size w w2) := ((Below.refl _ _).alloc (Nat.le_refl _) _).trans (hb.mono (by simp)); obtain ⟨q, fq⟩ := bcell hb; have q3 := q w.heap.size 3 (by simp); have q4 := q w.heap.size 4 (by simp); simp at q3 q4; clear hb q fq))
    refine (HF.out _ HB.out).mono ?_
    rintro e w3 ⟨rfl, hb3⟩
    have HB3 : Hid (Below w.heap.size w w3) := HB.out.trans (hb3.mono HB.out.size)
    clear hb3
    go_wp2
    go_ret
    exact ⟨rfl, HB3.out⟩
end
end Go.Proofs.YtpaibmganlaaeaaGreatDoor
namespace Go.Proofs.YtpaibmganlaaeaaGreatDoor
set_option linter.unusedVariables false
open Go.RowKit
theorem ints_none (a : Option Addr) (c : Nat) (W : World) : Calls Tryz.prog 107 #[.slice a 0 c] W fun e w' => e = .returned (.bool true) ∧ w' = W := by
  have := integers_of a 0 c (fun _ => 0) W (fun b e i hi => absurd hi (Nat.not_lt_zero _)) (fun _ => rfl) (by omega)
  exact this
set_option maxHeartbeats 1000000 in
theorem oneText_1 (gv : Int) (hg : 0 ≤ gv ∧ gv < 256) (g cap : Nat) (κ : Nat → Int) (w : World) (hk : KsAt w ⟨g, 0, none⟩ 1 κ) (hc : 1 ≤ cap) (p : Bool) (hp : allT 1 κ = p) :
    Calls Tryz.prog 55 #[.int .i64 gv, .slice (some ⟨g, 0, none⟩) 1 cap] w fun e w' => e = .returned (.int .u8 (gvK gv p)) ∧ Below w.heap.size w w' := by
  have T : Hid (∀ (W : World) c, Below w.heap.size w W → Calls Tryz.prog 106 #[.slice (some ⟨g, 0, none⟩) 1 c] W fun e w' => e = .returned (.bool p) ∧ w' = W) := fun W c hb => texts_is _ 1 c κ W p (hk.below hb) (by omega) hp
  have I : Hid (∀ (W : World) a c, Calls Tryz.prog 107 #[.slice a 0 c] W fun e w' => e = .returned (.bool true) ∧ w' = W) := fun W a c => ints_none a c W
  clear hk hp
  have e2 : (1 : Int) ≤ cap := by omega
  cases p
  all_goals
    go_enter Tryz.func55, Tryz.ntmps55
    go_wp2_with (first | (go_at_call 106; refine (T.out _ _ (Below.refl _ _)).mono ?_; rintro e w1 ⟨rfl, h1⟩; subst h1) | (go_at_call 107; refine (I.out _ _ _).mono ?_; rintro e w2 ⟨rfl, h2⟩; subst h2) | (go_at_call 90; refine (given_of _ _ _).mono ?_; rintro e w3 ⟨rfl, h3⟩; subst h3))
    all_goals
      go_ret
      exact ⟨by simp, Below.refl _ _⟩
set_option maxHeartbeats 1000000 in
theorem twoTexts_2 (gv : Int) (hg : 0 ≤ gv ∧ gv < 256) (g cap : Nat) (κ : Nat → Int) (w : World) (hk : KsAt w ⟨g, 0, none⟩ 2 κ) (hc : 2 ≤ cap) (p : Bool) (hp : allT 2 κ = p) :
    Calls Tryz.prog 62 #[.int .i64 gv, .slice (some ⟨g, 0, none⟩) 2 cap] w fun e w' => e = .returned (.int .u8 (gvK gv p)) ∧ Below w.heap.size w w' := by
  have T : Hid (∀ (W : World) c, Below w.heap.size w W → Calls Tryz.prog 106 #[.slice (some ⟨g, 0, none⟩) 2 c] W fun e w' => e = .returned (.bool p) ∧ w' = W) := fun W c hb => texts_is _ 2 c κ W p (hk.below hb) (by omega) hp
  have I : Hid (∀ (W : World) a c, Calls Tryz.prog 107 #[.slice a 0 c] W fun e w' => e = .returned (.bool true) ∧ w' = W) := fun W a c => ints_none a c W
  clear hk hp
  have e2 : (2 : Int) ≤ cap := by omega
  cases p
  all_goals
    go_enter Tryz.func62, Tryz.ntmps62
    go_wp2_with (first | (go_at_call 106; refine (T.out _ _ (Below.refl _ _)).mono ?_; rintro e w1 ⟨rfl, h1⟩; subst h1) | (go_at_call 107; refine (I.out _ _ _).mono ?_; rintro e w2 ⟨rfl, h2⟩; subst h2) | (go_at_call 90; refine (given_of _ _ _).mono ?_; rintro e w3 ⟨rfl, h3⟩; subst h3))
    all_goals
      go_ret
      exact ⟨by simp, Below.refl _ _⟩
/-- A text ahead, and integers behind it; two of them. -/
def oneB (n : Nat) (κ : Nat → Int) : Bool := allT 1 κ && allI (n - 1) (fun i => κ (1 + i))
def twoB (n : Nat) (κ : Nat → Int) : Bool := allT 2 κ && allI (n - 2) (fun i => κ (2 + i))
theorem allI_0 (κ : Nat → Int) : allI 0 κ = true := by unfold allI; exact decide_eq_true (fun i hi => absurd hi (Nat.not_lt_zero _))
theorem oneText_n (gv : Int) (hg : 0 ≤ gv ∧ gv < 256) (g n cap : Nat) (κ : Nat → Int) (w : World) (hk : KsAt w ⟨g, 0, none⟩ n κ) (hn : n < 1000000) (h1 : 1 ≤ n) (hc : n ≤ cap) :
    Calls Tryz.prog 55 #[.int .i64 gv, .slice (some ⟨g, 0, none⟩) n cap] w fun e w' => e = .returned (.int .u8 (gvK gv (oneB n κ))) ∧ Below w.heap.size w w' := by
  unfold oneB
  by_cases c : n = 1
  · subst c
    rw [show 1 - 1 = 0 from rfl, allI_0, Bool.and_true]
    exact oneText_1 gv hg g cap κ w hk hc _ rfl
  · exact oneText_of gv hg g n cap κ w hk hn (by omega) hc _ _ rfl rfl
theorem twoTexts_n (gv : Int) (hg : 0 ≤ gv ∧ gv < 256) (g n cap : Nat) (κ : Nat → Int) (w : World) (hk : KsAt w ⟨g, 0, none⟩ n κ) (hn : n < 1000000) (h1 : 2 ≤ n) (hc : n ≤ cap) :
    Calls Tryz.prog 62 #[.int .i64 gv, .slice (some ⟨g, 0, none⟩) n cap] w fun e w' => e = .returned (.int .u8 (gvK gv (twoB n κ))) ∧ Below w.heap.size w w' := by
  unfold twoB
  by_cases c : n = 2
  · subst c
    rw [show 2 - 2 = 0 from rfl, allI_0, Bool.and_true]
    exact twoTexts_2 gv hg g cap κ w hk hc _ rfl
  · exact twoTexts_of gv hg g n cap κ w hk hn (by omega) hc _ _ rfl rfl
/-- What a function of the table takes and gives for kinds that are as many as it takes. -/
def tkT (k n : Nat) (κ : Nat → Int) : Int := match k with
  | 1 => rcN 1 n κ
  | 2 => rcN 2 n κ
  | 3 => rcN 3 n κ
  | 4 => rcN 4 n κ
  | 5 => rcN 5 n κ
  | 6 => rcN 6 n κ
  | 7 => rcN 7 n κ
  | 8 => rcN 8 n κ
  | 9 => tnK (κ 0)
  | 10 => gvK 1 (comK n κ != 0)
  | 11 => gvK 1 (comK n κ != 0)
  | 12 => gvK 1 (comK n κ != 0)
  | 13 => gvK 1 (comK n κ != 0)
  | 14 => gvK 1 (comK n κ != 0)
  | 15 => gvK 1 (comK n κ != 0)
  | 16 => comK n κ
  | 17 => gvK (κ 0) (intK (κ 0) || κ 0 == 18 || κ 0 == 14)
  | 18 => comK n κ
  | 19 => comK n κ
  | 20 => comK n κ
  | 21 => gvK (comK (n - 1) (fun i => κ (1 + i))) (κ 0 == 1)
  | 22 => gvK (comK (n - 1) (fun i => κ (1 + i))) (intK (κ 0))
  | 23 => gvK (κ 0) (rowK (κ 0) && intK (κ 1))
  | 24 => gvK (κ 0) (rowK (κ 0) && intK (κ 1))
  | 25 => gvK (κ 0) (rowK (κ 0) && intK (κ 1))
  | 26 => gvK (κ 0) (rowK (κ 0) && intK (κ 1))
  | 27 => gvK 3 (oneB n κ)
  | 28 => gvK 19 (oneB n κ)
  | 29 => gvK 19 (oneB n κ)
  | 30 => gvK 19 (oneB n κ)
  | 31 => gvK 19 (allT n κ)
  | 32 => gvK 19 (twoB n κ)
  | 33 => gvK 19 (oneB n κ)
  | 34 => gvK 19 (twoB n κ)
  | 35 => gvK 3 (twoB n κ)
  | 36 => gvK 5 (κ 0 == 18)
  | _ => 0
theorem up {f : Nat} {args : Array Value} {W : World} {x : Ending} (h : Calls Tryz.prog f args W fun e w' => e = x ∧ w' = W) : Calls Tryz.prog f args W fun e w' => e = x ∧ Below W.heap.size W w' :=
  h.mono fun e w' q => ⟨q.1, by rw [q.2]; exact Below.refl _ _⟩
theorem shifted_n (hw : Int) (a : Addr) (n cap : Nat) (κ : Nat → Int) (w : World) (hk : KsAt w a n κ) (hn : n = 2) :
    Calls Tryz.prog 50 #[.int .i64 hw, .slice (some a) n cap] w fun e w' => e = .returned (.int .u8 (gvK (κ 0) (rowK (κ 0) && intK (κ 1)))) ∧ Below w.heap.size w w' := by subst hn; exact shifted_of hw a cap κ w hk
theorem ct_n {x c : Nat} {n : Nat} (h : ctB x c n = true) : c ≤ n ∧ (n = c ∨ n ≤ 16) := by
  unfold ctB at h
  simp at h
  omega
theorem one_n {c : Nat} {n : Nat} (h : ctB 0 c n = true) : n = c := by
  unfold ctB at h
  simp at h
  omega
set_option maxRecDepth 20000 in
set_option maxHeartbeats 2000000 in
theorem outcome_T (k : Nat) (h1 : 1 ≤ k) (h2 : k < 37) (g n cap : Nat) (κ : Nat → Int) (w : World) (ht : Asc w) (hk : KsAt w ⟨g, 0, none⟩ n κ) (hcap : n ≤ cap) (hr : ∀ i, 0 ≤ κ i ∧ κ i < 256) (hc : ctB (fuT k).nx (pmT k).1.length n = true) :
    Calls Tryz.prog 12 #[FV (fuT k), .slice (some ⟨g, 0, none⟩) n cap] w fun e w' => e = .returned (.int .u8 (tkT k n κ)) ∧ Below w.heap.size w w' := by
  have P := pm_T k h2
  rw [P.nx] at hc
  have cn := ct_n hc
  rw [← P.nx] at hc
  have le := P.le
  match k, h1, h2 with
  | 1, _, _ =>
    have cm : 2 ≤ n ∧ (n = 2 ∨ n ≤ 16) := cn
    exact outcome_yes _ _ _ _ _ 35 _ _ n cap _ _ w P.fld ht hc (fun W hb => reckoned_of 1 g n cap κ W (by decide) (hk.below hb) (by omega) (by omega) (hr 0) (hr 1)) (fun _ _ => rfl)
  | 2, _, _ =>
    have cm : n = 2 := one_n hc
    exact outcome_yes _ _ _ _ _ 35 _ _ n cap _ _ w P.fld ht hc (fun W hb => reckoned_of 2 g n cap κ W (by decide) (hk.below hb) (by omega) (by omega) (hr 0) (hr 1)) (fun _ _ => rfl)
  | 3, _, _ =>
    have cm : 2 ≤ n ∧ (n = 2 ∨ n ≤ 16) := cn
    exact outcome_yes _ _ _ _ _ 35 _ _ n cap _ _ w P.fld ht hc (fun W hb => reckoned_of 3 g n cap κ W (by decide) (hk.below hb) (by omega) (by omega) (hr 0) (hr 1)) (fun _ _ => rfl)
  | 4, _, _ =>
    have cm : n = 2 := one_n hc
    exact outcome_yes _ _ _ _ _ 35 _ _ n cap _ _ w P.fld ht hc (fun W hb => reckoned_of 4 g n cap κ W (by decide) (hk.below hb) (by omega) (by omega) (hr 0) (hr 1)) (fun _ _ => rfl)
  | 5, _, _ =>
    have cm : n = 2 := one_n hc
    exact outcome_yes _ _ _ _ _ 35 _ _ n cap _ _ w P.fld ht hc (fun W hb => reckoned_of 5 g n cap κ W (by decide) (hk.below hb) (by omega) (by omega) (hr 0) (hr 1)) (fun _ _ => rfl)
  | 6, _, _ =>
    have cm : 2 ≤ n ∧ (n = 2 ∨ n ≤ 16) := cn
    exact outcome_yes _ _ _ _ _ 35 _ _ n cap _ _ w P.fld ht hc (fun W hb => reckoned_of 6 g n cap κ W (by decide) (hk.below hb) (by omega) (by omega) (hr 0) (hr 1)) (fun _ _ => rfl)
  | 7, _, _ =>
    have cm : 2 ≤ n ∧ (n = 2 ∨ n ≤ 16) := cn
    exact outcome_yes _ _ _ _ _ 35 _ _ n cap _ _ w P.fld ht hc (fun W hb => reckoned_of 7 g n cap κ W (by decide) (hk.below hb) (by omega) (by omega) (hr 0) (hr 1)) (fun _ _ => rfl)
  | 8, _, _ =>
    have cm : 2 ≤ n ∧ (n = 2 ∨ n ≤ 16) := cn
    exact outcome_yes _ _ _ _ _ 35 _ _ n cap _ _ w P.fld ht hc (fun W hb => reckoned_of 8 g n cap κ W (by decide) (hk.below hb) (by omega) (by omega) (hr 0) (hr 1)) (fun _ _ => rfl)
  | 9, _, _ =>
    have cm : n = 1 := one_n hc
    exact outcome_yes _ _ _ _ _ 37 _ _ n cap _ _ w P.fld ht hc (fun W hb => turned_of _ n cap κ W (hk.below hb) (by omega) (hr 0)) (fun _ _ => rfl)
  | 10, _, _ =>
    have cm : 2 ≤ n ∧ (n = 2 ∨ n ≤ 16) := cn
    exact outcome_yes _ _ _ _ _ 39 _ _ n cap _ _ w P.fld ht hc (fun W hb => comparedS_of _ _ n cap κ W (hk.below hb) (by omega) (by omega)) (fun _ _ => rfl)
  | 11, _, _ =>
    have cm : n = 2 := one_n hc
    exact outcome_yes _ _ _ _ _ 39 _ _ n cap _ _ w P.fld ht hc (fun W hb => comparedS_of _ _ n cap κ W (hk.below hb) (by omega) (by omega)) (fun _ _ => rfl)
  | 12, _, _ =>
    have cm : 2 ≤ n ∧ (n = 2 ∨ n ≤ 16) := cn
    exact outcome_yes _ _ _ _ _ 39 _ _ n cap _ _ w P.fld ht hc (fun W hb => comparedS_of _ _ n cap κ W (hk.below hb) (by omega) (by omega)) (fun _ _ => rfl)
  | 13, _, _ =>
    have cm : 2 ≤ n ∧ (n = 2 ∨ n ≤ 16) := cn
    exact outcome_yes _ _ _ _ _ 39 _ _ n cap _ _ w P.fld ht hc (fun W hb => comparedS_of _ _ n cap κ W (hk.below hb) (by omega) (by omega)) (fun _ _ => rfl)
  | 14, _, _ =>
    have cm : 2 ≤ n ∧ (n = 2 ∨ n ≤ 16) := cn
    exact outcome_yes _ _ _ _ _ 39 _ _ n cap _ _ w P.fld ht hc (fun W hb => comparedS_of _ _ n cap κ W (hk.below hb) (by omega) (by omega)) (fun _ _ => rfl)
  | 15, _, _ =>
    have cm : 2 ≤ n ∧ (n = 2 ∨ n ≤ 16) := cn
    exact outcome_yes _ _ _ _ _ 39 _ _ n cap _ _ w P.fld ht hc (fun W hb => comparedS_of _ _ n cap κ W (hk.below hb) (by omega) (by omega)) (fun _ _ => rfl)
  | 16, _, _ =>
    have cm : n = 1 := one_n hc
    exact outcome_yes _ _ _ _ _ 41 _ _ n cap _ _ w P.fld ht hc (fun W hb => alike_of _ _ n cap κ W (hk.below hb) (by omega) (by omega)) (fun _ _ => rfl)
  | 17, _, _ =>
    have cm : n = 1 := one_n hc
    exact outcome_yes _ _ _ _ _ 43 _ _ n cap _ _ w P.fld ht hc (fun W hb => up (sized_of _ _ n cap κ W (hk.below hb) (by omega) (by omega))) (fun _ _ => rfl)
  | 18, _, _ =>
    have cm : 2 ≤ n ∧ (n = 2 ∨ n ≤ 16) := cn
    exact outcome_yes _ _ _ _ _ 41 _ _ n cap _ _ w P.fld ht hc (fun W hb => alike_of _ _ n cap κ W (hk.below hb) (by omega) (by omega)) (fun _ _ => rfl)
  | 19, _, _ =>
    have cm : 2 ≤ n ∧ (n = 2 ∨ n ≤ 16) := cn
    exact outcome_yes _ _ _ _ _ 41 _ _ n cap _ _ w P.fld ht hc (fun W hb => alike_of _ _ n cap κ W (hk.below hb) (by omega) (by omega)) (fun _ _ => rfl)
  | 20, _, _ =>
    have cm : n = 3 := one_n hc
    exact outcome_yes _ _ _ _ _ 41 _ _ n cap _ _ w P.fld ht hc (fun W hb => alike_of _ _ n cap κ W (hk.below hb) (by omega) (by omega)) (fun _ _ => rfl)
  | 21, _, _ =>
    have cm : n = 3 := one_n hc
    exact outcome_yes _ _ _ _ _ 47 _ _ n cap _ _ w P.fld ht hc (fun W hb => chosenByTruth_of _ g n cap κ W (hk.below hb) (by omega) (by omega) hcap) (fun _ _ => rfl)
  | 22, _, _ =>
    have cm : 2 ≤ n ∧ (n = 2 ∨ n ≤ 16) := cn
    exact outcome_yes _ _ _ _ _ 49 _ _ n cap _ _ w P.fld ht hc (fun W hb => chosenByNumber_of _ g n cap κ W (hk.below hb) (by omega) (by omega) hcap) (fun _ _ => rfl)
  | 23, _, _ =>
    have cm : n = 2 := one_n hc
    exact outcome_yes _ _ _ _ _ 50 _ _ n cap _ _ w P.fld ht hc (fun W hb => shifted_n _ _ n cap κ W (hk.below hb) cm) (fun _ _ => rfl)
  | 24, _, _ =>
    have cm : n = 2 := one_n hc
    exact outcome_yes _ _ _ _ _ 50 _ _ n cap _ _ w P.fld ht hc (fun W hb => shifted_n _ _ n cap κ W (hk.below hb) cm) (fun _ _ => rfl)
  | 25, _, _ =>
    have cm : n = 2 := one_n hc
    exact outcome_yes _ _ _ _ _ 50 _ _ n cap _ _ w P.fld ht hc (fun W hb => shifted_n _ _ n cap κ W (hk.below hb) cm) (fun _ _ => rfl)
  | 26, _, _ =>
    have cm : n = 2 := one_n hc
    exact outcome_yes _ _ _ _ _ 50 _ _ n cap _ _ w P.fld ht hc (fun W hb => shifted_n _ _ n cap κ W (hk.below hb) cm) (fun _ _ => rfl)
  | 27, _, _ =>
    have cm : n = 1 := one_n hc
    exact outcome_yes _ _ _ _ _ 55 _ _ n cap _ _ w P.fld ht hc (fun W hb => oneText_n 3 (by decide) g n cap κ W (hk.below hb) (by omega) (by omega) hcap) (fun _ _ => rfl)
  | 28, _, _ =>
    have cm : n = 2 := one_n hc
    exact outcome_yes _ _ _ _ _ 55 _ _ n cap _ _ w P.fld ht hc (fun W hb => oneText_n 19 (by decide) g n cap κ W (hk.below hb) (by omega) (by omega) hcap) (fun _ _ => rfl)
  | 29, _, _ =>
    have cm : n = 2 := one_n hc
    exact outcome_yes _ _ _ _ _ 55 _ _ n cap _ _ w P.fld ht hc (fun W hb => oneText_n 19 (by decide) g n cap κ W (hk.below hb) (by omega) (by omega) hcap) (fun _ _ => rfl)
  | 30, _, _ =>
    have cm : n = 3 := one_n hc
    exact outcome_yes _ _ _ _ _ 55 _ _ n cap _ _ w P.fld ht hc (fun W hb => oneText_n 19 (by decide) g n cap κ W (hk.below hb) (by omega) (by omega) hcap) (fun _ _ => rfl)
  | 31, _, _ =>
    have cm : 2 ≤ n ∧ (n = 2 ∨ n ≤ 16) := cn
    exact outcome_yes _ _ _ _ _ 60 _ _ n cap _ _ w P.fld ht hc (fun W hb => allTexts_of 19 (by decide) g n cap κ W (hk.below hb) (by omega)) (fun _ _ => rfl)
  | 32, _, _ =>
    have cm : n = 3 := one_n hc
    exact outcome_yes _ _ _ _ _ 62 _ _ n cap _ _ w P.fld ht hc (fun W hb => twoTexts_n 19 (by decide) g n cap κ W (hk.below hb) (by omega) (by omega) hcap) (fun _ _ => rfl)
  | 33, _, _ =>
    have cm : n = 3 := one_n hc
    exact outcome_yes _ _ _ _ _ 55 _ _ n cap _ _ w P.fld ht hc (fun W hb => oneText_n 19 (by decide) g n cap κ W (hk.below hb) (by omega) (by omega) hcap) (fun _ _ => rfl)
  | 34, _, _ =>
    have cm : n = 4 := one_n hc
    exact outcome_yes _ _ _ _ _ 62 _ _ n cap _ _ w P.fld ht hc (fun W hb => twoTexts_n 19 (by decide) g n cap κ W (hk.below hb) (by omega) (by omega) hcap) (fun _ _ => rfl)
  | 35, _, _ =>
    have cm : n = 2 := one_n hc
    exact outcome_yes _ _ _ _ _ 62 _ _ n cap _ _ w P.fld ht hc (fun W hb => twoTexts_n 3 (by decide) g n cap κ W (hk.below hb) (by omega) (by omega) hcap) (fun _ _ => rfl)
  | 36, _, _ =>
    have cm : n = 1 := one_n hc
    exact outcome_yes _ _ _ _ _ 67 _ _ n cap _ _ w P.fld ht hc (fun W hb => up (cut_of 5 (by decide) _ n cap κ W (hk.below hb) (by omega) (by omega))) (fun _ _ => rfl)
  | n + 37, _, h => omega
/-- The same of every number. -/
def tkA (z : Int) (n : Nat) (κ : Nat → Int) : Int := if 1 ≤ z ∧ z ≤ 36 then tkT z.toNat n κ else gvK (z - 64) (cvU (z - 64) (κ 0))
def ctA (z : Int) (n : Nat) : Bool := ctB (fuA z).nx (pmA z).1.length n
def oA (z : Int) (n : Nat) (κ : Nat → Int) : Int := if ctA z n = true then tkA z n κ else 0
set_option maxRecDepth 20000 in
theorem outcome_A (z : Int) (hz : 1 ≤ z ∧ z ≤ 36 ∨ 65 ≤ z ∧ z ≤ 83) (g n cap : Nat) (κ : Nat → Int) (w : World) (ht : Asc w) (hP : Pow w) (hk : KsAt w ⟨g, 0, none⟩ n κ) (hcap : n ≤ cap) (hr : ∀ i, 0 ≤ κ i ∧ κ i < 256) :
    Calls Tryz.prog 12 #[FV (fuA z), .slice (some ⟨g, 0, none⟩) n cap] w fun e w' => e = .returned (.int .u8 (oA z n κ)) ∧ Below w.heap.size w w' := by
  unfold oA
  cases c : ctA z n
  · rw [if_neg (by decide)]
    exact outcome_no _ _ _ _ _ _ _ n cap _ _ w (pm_A z).fld ht c
  · rw [if_pos rfl]
    unfold ctA at c
    unfold tkA
    by_cases h : 1 ≤ z ∧ z ≤ 36
    · rw [if_pos h]
      have e1 : fuA z = fuT z.toNat := by unfold fuA; rw [if_pos h]
      have e2 : pmA z = pmT z.toNat := by unfold pmA; rw [if_pos h]
      rw [e1, e2] at c
      rw [e1]
      exact outcome_T z.toNat (by omega) (by omega) g n cap κ w ht hk hcap hr c
    · rw [if_neg h]
      have e1 : fuA z = fuC (z - 64).toNat := by unfold fuA; rw [if_neg h, if_pos (by omega)]
      have e2 : pmA z = ([⟨#[73, 78]⟩], 0) := by unfold pmA; rw [if_neg h, if_pos (by omega)]
      have P := pm_A z
      have cn : n = 1 := by
        rw [P.nx, e2] at c
        unfold ctB at c
        simp at c
        omega
      subst cn
      have hh : ((z - 64).toNat : Int) = z - 64 := by omega
      rw [e1] at P c ⊢
      refine outcome_yes _ _ _ _ _ 72 _ _ 1 cap _ _ w P.fld ht c (fun W hb => ?_) (fun _ _ => rfl)
      show Calls _ _ #[.int .i64 ((z - 64).toNat : Int), _] _ _
      rw [hh]
      exact converted_of (z - 64) _ 1 cap κ W (by omega) (pow_below hP hb) (hk.below hb) (by omega) (hr 0)
end Go.Proofs.YtpaibmganlaaeaaGreatDoor
namespace Go.Proofs.YtpaibmganlaaeaaGreatDoor
set_option linter.unusedVariables false
open Go.RowKit
set_option maxRecDepth 20000 in
set_option maxHeartbeats 2000000 in
theorem named_K (K : Nat) (h1 : 1 ≤ K) (h2 : K < 37) (nm : ByteArray) (he : (fuT K).nm = nm) (hn : ∀ k, 1 ≤ k → k < K → ((fuT k).nm.toList == nm.toList) = false) (w : World) :
    Calls Tryz.prog 10 #[.string nm] w fun e w' => e = .returned (.tuple #[.int .i64 K, .int .u8 0]) ∧ Below w.heap.size w w' := by
  have HE : Hid _ := he
  have HN : Hid _ := hn
  clear he hn
  go_enter Tryz.func10, Tryz.ntmps10
  go_wp2_with (first | (go_at_call 19; refine (functions_of _).mono ?_; rintro e w1 ⟨rfl, hb⟩; have HB : Hid _ := hb; clear hb))
  go_loopw [15] (fun i wr => ∃ k : Nat, k ≤ K ∧ i = .int .i64 k ∧ Below w.heap.size w wr) (fun i _ => K - (intOf i).toNat)
  case atStart => exact ⟨0, Nat.zero_le _, rfl, HB.out⟩
  case round =>
    obtain ⟨k, hk, rfl, hb⟩ := hrel
    have ix := fu_atK k (by omega)
    have k37 : (k : Int) < 37 := by omega
    have HB : Hid (Below w.heap.size w wr) := hb
    clear hb
    by_cases hlt : k < K
    · have HNk : Hid (1 ≤ k → ((fuT k).nm.toList == nm.toList) = false) := fun h => HN.out k h hlt
      generalize fuT k = f at *
      obtain ⟨nm', fm', nx', hw', tk', gv'⟩ := f
      by_cases h0 : k = 0
      · subst h0
        clear ix HNk
        have ix : ∀ w, (Instr.index 49 (.agg fuCells) (.int .i64 0)).run Tryz.prog w = .ok (.agg #[.string ⟨#[]⟩, .string ⟨#[]⟩, .int .i64 0, .int .i64 0, .nilFunc, .nilFunc]) w := fun w => by kernel_rfl
        go_wp2_with (refine wpList_store_row rfl 42 _ _ rfl wr.heap.size _ rfl rfl _ _ (heap_alloc_last wr _) fun_info rfl (by kernel_rfl) ?_; rw [World.setRow_alloc_new])
        exact ⟨⟨1, by omega, rfl, HB.out.alloc HB.out.size _⟩, by simp [intOf]; omega⟩
      · have hn := HNk.out (by omega)
        have kp : (0 : Int) < k := by omega
        clear HNk
        cases tk' <;> cases gv'
        all_goals
          simp only [FV, FO] at ix
          go_wp2_with (refine wpList_store_row rfl 42 _ _ rfl wr.heap.size _ rfl rfl _ _ (heap_alloc_last wr _) fun_info rfl (by kernel_rfl) ?_; rw [World.setRow_alloc_new])
          exact ⟨⟨k + 1, by omega, by go_num, HB.out.alloc HB.out.size _⟩, by simp [intOf]; omega⟩
    · obtain rfl : k = K := by omega
      have he := HE.out
      generalize fuT k = f at *
      obtain ⟨nm', fm', nx', hw', tk', gv'⟩ := f
      simp only at he
      subst he
      have kp : (0 : Int) < k := by omega
      clear HN HE
      cases tk' <;> cases gv'
      all_goals
        simp only [FV, FO] at ix
        go_wp2_with (refine wpList_store_row rfl 42 _ _ rfl wr.heap.size _ rfl rfl _ _ (heap_alloc_last wr _) fun_info rfl (by kernel_rfl) ?_; rw [World.setRow_alloc_new])
        go_ret2
        exact ⟨rfl, HB.out.alloc HB.out.size _⟩
end Go.Proofs.YtpaibmganlaaeaaGreatDoor
namespace Go.Proofs.YtpaibmganlaaeaaGreatDoor
set_option linter.unusedVariables false
open Go.RowKit
/-- Does a text end with _? -/
def lastU (a : ByteArray) : Bool := decide (0 < a.size) && ((a.extract (a.size - 1) a.size).toList == [95])
set_option maxHeartbeats 1000000 in
theorem HasSuffix_of (a : ByteArray) (w : World) (hs : a.size ≤ maxLen) :
    Calls Tryz.prog 117 #[.string a, .string ⟨#[95]⟩] w fun e w' => e = .returned (.bool (lastU a)) ∧ w' = w := by
  unfold maxLen at hs
  by_cases h : 0 < a.size
  · have h1 : (1 : Int) ≤ a.size := by omega
    go_enter Tryz.func117, Tryz.ntmps117
    go_wp2
    go_ret
    exact ⟨ret_bool (by simp [lastU, h]), rfl⟩
  · have h1 : ¬ (1 : Int) ≤ a.size := by omega
    go_enter Tryz.func117, Tryz.ntmps117
    go_wp2
    go_ret
    exact ⟨ret_bool (by simp [lastU, h]), rfl⟩
/-- What strings.CutSuffix answers of a text and _. -/
def cutU (a : ByteArray) : Value := if lastU a then .tuple #[.string (a.extract 0 (a.size - 1)), .bool true] else .tuple #[.string a, .bool false]
set_option maxHeartbeats 1000000 in
theorem CutSuffixL_of (a : ByteArray) (w : World) (hs : a.size ≤ maxLen) :
    Calls Tryz.prog 70 #[.string a, .string ⟨#[95]⟩] w fun e w' => e = .returned (cutU a) ∧ w' = w := by
  have H : Hid _ := fun w => HasSuffix_of a w hs
  unfold maxLen at hs
  cases e : lastU a
  · have c : cutU a = .tuple #[.string a, .bool false] := by simp [cutU, e]
    rw [c]
    go_enter Tryz.func70, Tryz.ntmps70
    go_wp2_with (first | (go_at_call 117; refine (H.out _).mono ?_; rintro x w1 ⟨rfl, rfl⟩; rw [e]))
    go_ret2
    exact ⟨rfl, rfl⟩
  · have h1 : 0 < a.size := by have := e; simp [lastU] at this; exact this.1
    have h2 : (1 : Int) ≤ a.size := by omega
    have c : cutU a = .tuple #[.string (a.extract 0 (a.size - 1)), .bool true] := by simp [cutU, e]
    rw [c]
    go_enter Tryz.func70, Tryz.ntmps70
    go_wp2_with (first | (go_at_call 117; refine (H.out _).mono ?_; rintro x w1 ⟨rfl, rfl⟩; rw [e]))
    first | (go_ret2; exact ⟨rfl, rfl⟩) | (trace_state; fail)
set_option maxHeartbeats 1000000 in
theorem CutSuffix_of (a : ByteArray) (w : World) (hs : a.size ≤ maxLen) :
    Calls Tryz.prog 22 #[.string a, .string ⟨#[95]⟩] w fun e w' => e = .returned (cutU a) ∧ w' = w := by
  have H : Hid _ := fun w => CutSuffixL_of a w hs
  obtain ⟨x, p, e⟩ : ∃ x p, cutU a = .tuple #[.string x, .bool p] := by
    unfold cutU; split
    · exact ⟨_, _, rfl⟩
    · exact ⟨_, _, rfl⟩
  rw [e] at H ⊢
  go_enter Tryz.func22, Tryz.ntmps22
  go_wp2_with (first | (go_at_call 70; refine (H.out _).mono ?_; rintro x w1 ⟨rfl, rfl⟩))
  go_ret2
  exact ⟨rfl, rfl⟩
end Go.Proofs.YtpaibmganlaaeaaGreatDoor
namespace Go.Proofs.YtpaibmganlaaeaaGreatDoor
set_option linter.unusedVariables false
open Go.RowKit
/-- The variable that the search of texts reads holds a number. -/
def MxL (w : World) : Prop := ∃ m, w.cell? ⟨3, 0, none⟩ = some (.int .i64 m)
theorem MxL.below {w w' : World} (h : MxL w) (hb : Below w.heap.size w w') : MxL w' := by
  obtain ⟨m, hm⟩ := h
  exact ⟨m, (hb.cell (p := ⟨3, 0, none⟩) (block_lt_of_cell hm)).trans hm⟩
/-- What strings.Cut answers at TO_: ahead, behind. -/
def cutA (nm : ByteArray) : ByteArray := ⟨(Lib.cut nm.data.toList [84, 79, 95]).1.toArray⟩
def cutB (nm : ByteArray) : ByteArray := ⟨(Lib.cut nm.data.toList [84, 79, 95]).2.1.toArray⟩
/-- The number of a conversion's name, and the kind that it lets it take. -/
def cvP (nm : ByteArray) : Int × Int := match kfind (cutB nm) 1 19 with
  | none => (0, 0)
  | some kt => if (cutA nm).toList.isEmpty then (64 + kt, 0) else if lastU (cutA nm) then
      (match kfind ((cutA nm).extract 0 ((cutA nm).size - 1)) 1 19 with
      | none => (0, 0)
      | some fr => (64 + kt, fr)) else (0, 0)
theorem kd_none {s : ByteArray} (h : kfind s 1 19 = none) : kdR s = .tuple #[.int .u8 0, .bool false] := by unfold kdR; rw [h]
theorem kd_some {s : ByteArray} {i : Nat} (h : kfind s 1 19 = some i) : kdR s = .tuple #[.int .u8 i, .bool true] := by unfold kdR; rw [h]
theorem kd_any (s : ByteArray) : ∃ (i : Nat) (b : Bool), kdR s = .tuple #[.int .u8 i, .bool b] := by
  cases h : kfind s 1 19 with
  | none => exact ⟨0, _, kd_none h⟩
  | some i => exact ⟨i, _, kd_some h⟩
theorem kfind_le (s : ByteArray) : ∀ (f i j : Nat), kfind s i f = some j → i ≤ j ∧ j < i + f
  | 0, i, j, h => by simp [kfind] at h
  | f + 1, i, j, h => by
    unfold kfind at h
    split at h
    · cases h; omega
    · have := kfind_le s f (i + 1) j h; omega
theorem cut_size (nm : ByteArray) (hs : nm.size < 4294967281) : (cutA nm).size < 4294967281 := by
  have e : nm.data.toList.length = nm.size := by rw [Array.length_toList]; rfl
  show (Lib.cut nm.data.toList [84, 79, 95]).1.toArray.size < _
  unfold Lib.cut
  split
  · simp; omega
  · simp; exact hs
set_option maxRecDepth 20000 in
set_option maxHeartbeats 4000000 in
theorem named_cv (nm : ByteArray) (hno : ∀ k, 1 ≤ k → k < 37 → ((fuT k).nm.toList == nm.toList) = false) (w : World) (hk : KW w) (hm : MxL w) (hs : nm.size < 4294967281) :
    Calls Tryz.prog 10 #[.string nm] w fun e w' => e = .returned (.tuple #[.int .i64 (cvP nm).1, .int .u8 (cvP nm).2]) ∧ Below w.heap.size w w' := by
  have HN : Hid _ := hno
  have HK : Hid (KW w) := hk
  have HM : Hid (MxL w) := hm
  have HS : Hid _ := hs
  have CZ : Hid _ := cut_size nm hs
  clear hno hk hm hs
  have HC : Hid (∀ W, Below w.heap.size w W → Calls Tryz.prog 20 #[.string nm, .string ⟨#[84, 79, 95]⟩] W fun e w' => (∃ b, e = .returned (.tuple #[.string (cutA nm), .string (cutB nm), .bool b])) ∧ ∃ n, w' = W.drewN n) := by
    intro W hb
    obtain ⟨m, hm⟩ := HM.out.below hb
    exact (Tryz.strings_Cut nm ⟨#[84, 79, 95]⟩ m W HS.out hm).mono fun e w' h => ⟨⟨_, h.1⟩, h.2⟩
  clear HM HS
  go_enter Tryz.func10, Tryz.ntmps10
  go_wp2_with (first | (go_at_call 19; refine (functions_of _).mono ?_; rintro e w1 ⟨rfl, hb⟩; have HB : Hid _ := hb; clear hb))
  go_loopw [15] (fun i wr => ∃ k : Nat, k ≤ 37 ∧ i = .int .i64 k ∧ Below w.heap.size w wr) (fun i _ => 37 - (intOf i).toNat)
  case atStart => exact ⟨0, Nat.zero_le _, rfl, HB.out⟩
  case round =>
    obtain ⟨k, hk, rfl, hb⟩ := hrel
    have HB : Hid (Below w.heap.size w wr) := hb
    clear hb
    by_cases hlt : k < 37
    · have ix := fu_atK k hlt
      have k37 : (k : Int) < 37 := by omega
      have HNk : Hid (1 ≤ k → ((fuT k).nm.toList == nm.toList) = false) := fun h => HN.out k h hlt
      generalize fuT k = f at *
      obtain ⟨nm', fm', nx', hw', tk', gv'⟩ := f
      by_cases h0 : k = 0
      · subst h0
        clear ix HNk
        have ix : ∀ w, (Instr.index 49 (.agg fuCells) (.int .i64 0)).run Tryz.prog w = .ok (.agg #[.string ⟨#[]⟩, .string ⟨#[]⟩, .int .i64 0, .int .i64 0, .nilFunc, .nilFunc]) w := fun w => by kernel_rfl
        go_wp2_with (refine wpList_store_row rfl 42 _ _ rfl wr.heap.size _ rfl rfl _ _ (heap_alloc_last wr _) fun_info rfl (by kernel_rfl) ?_; rw [World.setRow_alloc_new])
        exact ⟨⟨1, by omega, rfl, HB.out.alloc HB.out.size _⟩, by simp [intOf]⟩
      · have hn := HNk.out (by omega)
        have kp : (0 : Int) < k := by omega
        clear HNk
        cases tk' <;> cases gv'
        all_goals
          simp only [FV, FO] at ix
          go_wp2_with (refine wpList_store_row rfl 42 _ _ rfl wr.heap.size _ rfl rfl _ _ (heap_alloc_last wr _) fun_info rfl (by kernel_rfl) ?_; rw [World.setRow_alloc_new])
          exact ⟨⟨k + 1, by omega, by go_num, HB.out.alloc HB.out.size _⟩, by simp [intOf]; omega⟩
    · obtain rfl : k = 37 := by omega
      go_wp2_with fail
      refine (HC.out _ HB.out).mono ?_
      rintro e w2 ⟨⟨b, rfl⟩, n, rfl⟩
      have B2 : Hid (Below w.heap.size w (wr.drewN n)) := ⟨HB.out.os, HB.out.tape, HB.out.output, HB.out.size, HB.out.block⟩
      have K2 : Hid (KW (wr.drewN n)) := HK.out.next B2.out
      generalize wr.drewN n = w3 at *
      clear HC HN
      have KD : Hid (∀ s w, KW w → Calls Tryz.prog 21 #[.string s] w fun e w' => e = .returned (kdR s) ∧ w' = w) := fun s w h => Kind_of s w h
      have CS : Hid (∀ w, Calls Tryz.prog 22 #[.string (cutA nm), .string ⟨#[95]⟩] w fun e w' => e = .returned (cutU (cutA nm)) ∧ w' = w) := fun w => CutSuffix_of _ w (by have := CZ.out; unfold maxLen; omega)
      cases kt : kfind (cutB nm) 1 19 with
      | none =>
        have CP : Hid (cvP nm = (0, 0)) := by show cvP nm = (0, 0); unfold cvP; rw [kt]
        have kd := kd_none kt
        generalize cutA nm = A at *
        generalize cutB nm = B at *
        go_wp2_with (first | (go_at_call 21; refine (KD.out _ _ K2.out).mono ?_; rintro e w4 ⟨rfl, rfl⟩; rw [kd]))
        go_ret2
        exact ⟨by rw [CP.out]; rfl, B2.out⟩
      | some k =>
        have kd := kd_some kt
        have kr := kfind_le _ _ _ _ kt
        have kr1 : (k : Int) ≤ 19 := by omega
        cases q : (cutA nm).toList.isEmpty
        · cases u : lastU (cutA nm)
          · have CP : Hid (cvP nm = (0, 0)) := by show cvP nm = (0, 0); unfold cvP; rw [kt]; simp [q, u]
            have cu : cutU (cutA nm) = .tuple #[.string (cutA nm), .bool false] := by simp [cutU, u]
            obtain ⟨i, b2, ka⟩ := kd_any (cutA nm)
            generalize cutA nm = A at *
            generalize cutB nm = B at *
            go_wp2_with (first | (go_at_call_of 21 B; refine (KD.out _ _ K2.out).mono ?_; rintro e w4 ⟨rfl, rfl⟩; rw [kd]) | (go_at_call 22; refine (CS.out _).mono ?_; rintro e w5 ⟨rfl, rfl⟩; rw [cu]) | (go_at_call_of 21 A; refine (KD.out _ _ K2.out).mono ?_; rintro e w6 ⟨rfl, rfl⟩; rw [ka]))
            go_ret2
            exact ⟨by rw [CP.out]; rfl, B2.out⟩
          · have cu : cutU (cutA nm) = .tuple #[.string ((cutA nm).extract 0 ((cutA nm).size - 1)), .bool true] := by simp [cutU, u]
            cases kf : kfind ((cutA nm).extract 0 ((cutA nm).size - 1)) 1 19 with
            | none =>
              have CP : Hid (cvP nm = (0, 0)) := by show cvP nm = (0, 0); unfold cvP; rw [kt]; simp [q, u, kf]
              have ka := kd_none kf
              generalize (cutA nm).extract 0 ((cutA nm).size - 1) = C at *
              generalize cutA nm = A at *
              generalize cutB nm = B at *
              go_wp2_with (first | (go_at_call_of 21 B; refine (KD.out _ _ K2.out).mono ?_; rintro e w4 ⟨rfl, rfl⟩; rw [kd]) | (go_at_call 22; refine (CS.out _).mono ?_; rintro e w5 ⟨rfl, rfl⟩; rw [cu]) | (go_at_call_of 21 C; refine (KD.out _ _ K2.out).mono ?_; rintro e w6 ⟨rfl, rfl⟩; rw [ka]))
              go_ret2
              exact ⟨by rw [CP.out]; rfl, B2.out⟩
            | some j =>
              have CP : Hid (cvP nm = (64 + (k : Int), (j : Int))) := by show cvP nm = (64 + (k : Int), (j : Int)); unfold cvP; rw [kt]; simp [q, u, kf]
              have ka := kd_some kf
              generalize (cutA nm).extract 0 ((cutA nm).size - 1) = C at *
              generalize cutA nm = A at *
              generalize cutB nm = B at *
              go_wp2_with (first | (go_at_call_of 21 B; refine (KD.out _ _ K2.out).mono ?_; rintro e w4 ⟨rfl, rfl⟩; rw [kd]) | (go_at_call 22; refine (CS.out _).mono ?_; rintro e w5 ⟨rfl, rfl⟩; rw [cu]) | (go_at_call_of 21 C; refine (KD.out _ _ K2.out).mono ?_; rintro e w6 ⟨rfl, rfl⟩; rw [ka]))
              go_ret2
              exact ⟨by rw [CP.out]; rfl, B2.out⟩
        · have CP : Hid (cvP nm = (64 + (k : Int), 0)) := by show cvP nm = (64 + (k : Int), 0); unfold cvP; rw [kt]; simp [q]
          generalize cutA nm = A at *
          generalize cutB nm = B at *
          go_wp2_with (first | (go_at_call 21; refine (KD.out _ _ K2.out).mono ?_; rintro e w4 ⟨rfl, rfl⟩; rw [kd]))
          go_ret2
          exact ⟨by rw [CP.out]; rfl, B2.out⟩
end Go.Proofs.YtpaibmganlaaeaaGreatDoor
