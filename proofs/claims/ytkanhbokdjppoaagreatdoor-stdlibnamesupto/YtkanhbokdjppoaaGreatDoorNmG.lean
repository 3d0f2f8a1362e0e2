/- The formal names of a function's arguments, by the program; no statement of the seat is proved here. -/
import Derived.Test.YtkanhbokdjppoaaGreatDoorStdW
import Derived.Test.YtkanhbokdjppoaaGreatDoorIt0
namespace Go.Proofs.YtkanhbokdjppoaaGreatDoor
set_option linter.unusedVariables false
open Go.RowKit
/-- A text IN with a number behind it. -/
def inN (i : Nat) : ByteArray := ⟨#[73, 78]⟩ ++ ⟨(Lib.decDigits i).toArray⟩
/-- The name of an argument's place. -/
def pnF (c : Nat) (nx : Nat) (nms : Nat → ByteArray) (i : Nat) : ByteArray := if i < c then nms i else inN (nx + (i - c))
/-- Texts in a row of their own. -/
def stL (n : Nat) (p : Nat → ByteArray) : List Value := (List.range n).map fun i => .string (p i)
theorem stL_succ (n : Nat) (p : Nat → ByteArray) : stL (n + 1) p = stL n p ++ [.string (p n)] := by unfold stL; rw [List.range_succ, List.map_append]; rfl
theorem stL_at (n : Nat) (p : Nat → ByteArray) (i : Nat) (h : i < n) : (stL n p)[i]? = some (.string (p i)) := by unfold stL; simp [h]
theorem stL_len (n : Nat) (p : Nat → ByteArray) : (stL n p).length = n := by unfold stL; simp
def RowS (w : World) (g n : Nat) (p : Nat → ByteArray) : Prop := ∃ A : Array Value, w.heap[g]? = some (.cells A 9 (0, 0)) ∧ n ≤ A.size ∧ ∀ i, i < n → A[i]? = some (.string (p i))
theorem own_strs {w : World} {base n : Nat} {x : Value} {p : Nat → ByteArray} (h : w.ownsRow base 9 1 x n (stL n p)) (hn : 0 < n) : ∃ g cap, x = .slice (some ⟨g, 0, none⟩) n cap ∧ base ≤ g ∧ RowS w g n p := by
  obtain ⟨h1, h2⟩ := h
  rcases h2 with ⟨_, e⟩ | ⟨g, cap, cur, e, hb, hg, hc, hm, hs, ht⟩
  · omega
  · refine ⟨g, cap, e, hb, cur, hg, by omega, fun i hi => ?_⟩
    have a := stL_at n p i hi
    rw [← ht, List.getElem?_take_of_lt (by omega)] at a
    simpa using a
theorem dec_size (i : Nat) (h : i < 100) : (Lib.decDigits i).length ≤ 20 := by
  rw [Lib.decDigits]
  split
  · simp
  · rw [List.length_append, Lib.decDigits]
    rw [dif_pos (by omega)]
    simp
theorem in_size (i : Nat) (h : i < 100) : (inN i).size ≤ 30 := by
  have := dec_size i h
  unfold inN
  rw [ByteArray.size_append]
  have e1 : (⟨#[73, 78]⟩ : ByteArray).size = 2 := rfl
  have e2 : (⟨(Lib.decDigits i).toArray⟩ : ByteArray).size = (Lib.decDigits i).length := by simp [ByteArray.size]
  omega
theorem in_sum (i : Nat) (h : i < 100) : (⟨#[73, 78]⟩ : ByteArray).size + (⟨(Lib.decDigits i).toArray⟩ : ByteArray).size ≤ 9223372036854775807 := by
  have := dec_size i h
  have e1 : (⟨#[73, 78]⟩ : ByteArray).size = 2 := rfl
  have e2 : (⟨(Lib.decDigits i).toArray⟩ : ByteArray).size = (Lib.decDigits i).length := by simp [ByteArray.size]
  omega
theorem own_made (W : World) (l : List Value) (c : Nat) (h : l.length = c) (hc : c ≤ 100) : (W.alloc (.cells l.toArray 9)).ownsRow W.heap.size 9 1 (.slice (some ⟨W.heap.size, 0, none⟩) c c) c l :=
  ⟨by rw [h, Nat.mul_one], .inr ⟨W.heap.size, c, _, rfl, Nat.le_refl _, heap_alloc_last W _, Nat.le_refl _, by unfold maxLen; omega, by simp [h], by simp [← h]⟩⟩
theorem own_made2 {w w2 : World} {o : Obj} {l' l : List Value} {c : Nat} (h : w2 = (w.alloc o).alloc (.cells l'.toArray 9)) (e : l' = l) (hl : l.length = c) (hc : c ≤ 100) : w2.ownsRow (w.heap.size + 1) 9 1 (.slice (some ⟨w.heap.size + 1, 0, none⟩) c c) c l := by
  subst h e
  have := own_made (w.alloc o) l' c hl hc
  rwa [World.size_alloc] at this
/-- Names in a row of their own are answered. -/
def PmR (w : World) (n : Nat) (p : Nat → ByteArray) (e : Ending) (w' : World) : Prop := ∃ g cap, e = .returned (.slice (some ⟨g, 0, none⟩) n cap) ∧ w.heap.size ≤ g ∧ RowS w' g n p ∧ Below w.heap.size w w'
/-- A slice's length. -/
def lenOfV : Value → Nat
  | .slice _ n _ => n
  | _ => 0
theorem meas_len {w : World} {base : Nat} {x : Value} {xs : List Value} {y : Option Addr} {cp : Nat} (k n : Nat) (h : k < n) (hx : w.ownsRow base 9 1 x (k + 1) xs) : n - lenOfV x < n - lenOfV (.slice y k cp) := by
  rcases hx.2 with ⟨_, e⟩ | ⟨g, cap, cur, e, _⟩
  · omega
  · rw [e]; simp [lenOfV]; omega
section
variable (nm fm : ByteArray) (nx : Nat) (hw : Int) (tk gv : Option Nat)
set_option maxHeartbeats 4000000 in
theorem params_of (n c : Nat) (nms : Nat → ByteArray) (w : World) (h : FldOk fm c nms) (ht : Asc w) (hc : 0 < c) (hn : c ≤ n) (hm : n ≤ 16) (hx : nx ≤ 10) :
    Calls Tryz.prog 28 #[FV ⟨nm, fm, nx, hw, tk, gv⟩, .int .i64 n] w (PmR w n (pnF c nx nms)) := by
  have H : Hid _ := h
  have HT : Hid (Asc w) := ht
  clear h ht
  have I : Hid (∃ i, Tryz.prog.info? 9 = some i ∧ i.zero = some (.string ⟨#[]⟩) ∧ i.size = 1 ∧ i.bytes = 16) := by
    obtain ⟨i, hi, hz⟩ := Option.map_eq_some_iff.1 (show (Tryz.prog.info? 9).map (fun i => (i.zero, i.size, i.bytes)) = some (some (.string ⟨#[]⟩), 1, 16) by kernel_rfl)
    simp only [Prod.mk.injEq] at hz
    exact ⟨i, hi, hz.1, hz.2.1, hz.2.2⟩
  have C0 : Hid (((Lib.fields fm.data.toList).map fun l => Value.string ⟨l.toArray⟩) = stL c (pnF c nx nms)) := by
    apply List.ext_getElem?
    intro i
    by_cases hi : i < c
    · rw [H.out.at_ i hi, stL_at c _ i hi]; unfold pnF; rw [if_pos hi]
    · rw [List.getElem?_eq_none (by rw [List.length_map, H.out.len]; omega), List.getElem?_eq_none (by rw [stL_len]; omega)]
  cases tk <;> cases gv
  all_goals
    go_enter Tryz.func28, Tryz.ntmps28
    go_wp2_with (first | (go_at_call 49; refine (Fields_of _ c nms _ H.out (HT.out.below ((Below.refl _ _).alloc (Nat.le_refl _) _))).mono ?_; rintro e w2 ⟨rfl, hnm, hw2, hb⟩; have HB : Hid (Below w.heap.size w w2) := ((Below.refl _ _).alloc (Nat.le_refl _) _).trans (hb.mono (by simp)); obtain ⟨q, fq⟩ := bcell hb; have q2 := q w.heap.size 2 (by simp); simp at q2; have HW : Hid _ := hw2; clear hb hnm hw2 q fq))
    have z2 : w.heap.size < w2.heap.size := block_lt_of_cell q2
    have OW : Hid (w2.ownsRow (w.heap.size + 1) 9 1 (.slice (some ⟨w.heap.size + 1, 0, none⟩) c c) c (stL c (pnF c nx nms))) := by
      exact own_made2 HW.out C0.out (stL_len _ _) (by omega)
    clear HW C0 q2
    go_loopw [5, 6] (fun x i wr => ∃ k : Nat, c ≤ k ∧ k ≤ n ∧ i = .int .i64 ((nx + (k - c) : Nat) : Int) ∧ wr.ownsRow (w.heap.size + 1) 9 1 x k (stL k (pnF c nx nms)) ∧ Below w.heap.size w wr ∧ w2.heap.size ≤ wr.heap.size) (fun x _ _ => n - (lenOfV x))
    case atStart => exact ⟨c, Nat.le_refl _, hn, by simp, OW.out, HB.out, Nat.le_refl _⟩
    case round =>
      obtain ⟨k, hk0, hk, rfl, hown, hb, hsz⟩ := hrel
      have HB : Hid (Below w.heap.size w wr) := hb
      have HO : Hid (wr.ownsRow (w.heap.size + 1) 9 1 _ k (stL k (pnF c nx nms))) := hown
      obtain ⟨y, cp, rfl⟩ : ∃ y cp, u5 = .slice y k cp := by
        rcases hown.2 with ⟨hv, h0⟩ | ⟨g, cap, cur, hv, _⟩
        · exact ⟨none, 0, by rw [hv, h0]⟩
        · exact ⟨_, _, hv⟩
      have k16 : (k : Int) ≤ 16 := by omega
      clear hb hown
      by_cases hlt : k < n
      · have kl : (k : Int) < n := by omega
        have IT : Hid (∀ w, Calls Tryz.prog 50 #[.int .i64 ((nx + (k - c) : Nat) : Int)] w fun e w' => e = .returned (.string ⟨(Lib.decDigits (nx + (k - c))).toArray⟩) ∧ w' = w) := fun w => Tryz.strconv_Itoa_small (nx + (k - c)) (by omega) w
        have PN : Hid (pnF c nx nms k = inN (nx + (k - c))) := by show pnF c nx nms k = _; unfold pnF; rw [if_neg (by omega)]
        have EI : Hid (nx + (k + 1 - c) = nx + (k - c) + 1) := by show nx + (k + 1 - c) = _; omega
        have il : nx + (k - c) < 100 := by omega
        have dz := dec_size (nx + (k - c)) il
        generalize nx + (k - c) = i at *
        have cc : ∀ w, (Op.stringOp .add ⟨#[73, 78]⟩ ⟨(Lib.decDigits i).toArray⟩).run Tryz.prog w = .ok (.string (inN i)) w := fun w => run_string_add_sum w _ _ (in_sum i il)
        clear dz
        have il' : (i : Int) < 100 := by omega
        go_wp2_with (first | (go_at_call 50; refine (IT.out _).mono ?_; rintro e w5 ⟨rfl, h5⟩; subst h5) | (at_builtin; obtain ⟨i', hi, hz, hs, hy⟩ := I.out; refine wpList_append_own _ rfl _ _ 30 rfl (w.heap.size + 1) 9 i' _ 1 16 Tryz.underlying30 hi hz hs hy rfl (by decide) _ k _ rfl (ownsRow_below HO.out ((Below.refl _ _).alloc (Nat.le_refl _) _)) ⟨w5.heap.size, 0, none⟩ 1 1 [.string (inN i)] rfl rfl (last_src w5 _ _) (by intro u hu; simp at hu; subst hu; rfl) (by simp [maxLen]; omega) (by omega) (by simp; omega) ?_; intro v' w' k1 k2 k3; have H1 : Hid (w'.ownsRow (w.heap.size + 1) 9 1 v' (k + 1) (stL (k + 1) (pnF c nx nms))) := (by rw [stL_succ, PN.out]; exact k1); have H2 : Hid _ := k2; clear k1 k2 k3 hi hz hs hy))
        go_roundw
        case rel => exact ⟨k + 1, by omega, by omega, by rw [EI.out]; rfl, H1.out, (HB.out.alloc HB.out.size _).grown H2.out (by have := HB.out.size; simp; omega) (fun g e => Nat.le_of_succ_le (ownB HO.out e)), Nat.le_trans hsz (by have := H2.out.size; simp at this; omega)⟩
        case measure => exact meas_len k n hlt H1.out
      · obtain rfl : k = n := by omega
        have kl : ¬ (k : Int) < k := by omega
        go_wp2
        obtain ⟨g, c', e, hg, hr⟩ := own_strs HO.out (by omega)
        go_ret
        exact ⟨g, c', congrArg Ending.returned e, by omega, hr, HB.out⟩
end
end Go.Proofs.YtkanhbokdjppoaaGreatDoor
