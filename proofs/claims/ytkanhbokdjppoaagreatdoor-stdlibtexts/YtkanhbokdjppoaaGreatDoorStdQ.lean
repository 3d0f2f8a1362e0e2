/- The functions of texts by their names; no statement of the seat is proved here. -/
import Derived.Test.YtkanhbokdjppoaaGreatDoorStdF
import Derived.Test.YtkanhbokdjppoaaGreatDoorStdG
import Derived.Test.YtkanhbokdjppoaaGreatDoorStdI
import Derived.Test.YtkanhbokdjppoaaGreatDoorStdO
import Derived.Test.YtkanhbokdjppoaaGreatDoorStdP
namespace Go.Proofs.YtkanhbokdjppoaaGreatDoor
set_option linter.unusedVariables false
open Go.RowKit
/-- No function ahead of a number has such a name. -/
theorem aheadT {K : Nat} {nm : ByteArray} (h : ((List.range K).all fun k => k == 0 || !((fuT k).nm.data.toList == nm.data.toList)) = true) (k : Nat) (h1 : 1 ≤ k) (h2 : k < K) : ((fuT k).nm.toList == nm.toList) = false := by
  have := List.all_eq_true.1 h k (List.mem_range.2 h2)
  rw [ByteArray.toList_eq, ByteArray.toList_eq]
  have e : (k == 0) = false := by simp; omega
  rw [e] at this
  simpa using this
section
variable (nm fm : ByteArray) (nx hw : Int) (tk gv : Nat) (K : Nat) (g n cap : Nat) (v : Nat → Vl) (w : World)
/-- A function of the table, called by its name. -/
theorem call_any (h1 : 1 ≤ K) (h2 : K < 37) (hf : fuT K = ⟨nm, fm, nx, hw, some tk, some gv⟩) (hah : ((List.range K).all fun k => k == 0 || !((fuT k).nm.data.toList == nm.data.toList)) = true)
    (c : Nat) (nms : Nat → ByteArray) (hF : FldOk fm c nms) (hct : ctB nx c n = true) (ht : Asc w) (hn : n < 1000000) (h0 : 0 < n)
    (hv : VsAt w ⟨g, 0, none⟩ n v) (ho : ∀ i, i < n → VlOk (v i)) (hm : ∀ i, i < n → may3 (v i).k (v i).b (v i).s = true) (R rk rb fa : Int) (rs : ByteArray) (hR : (R == 0) = false)
    (hT : ∀ W g' c', Asc W → KsAt W ⟨g', 0, none⟩ n (fun i => (v i).k) → n ≤ c' → Calls Tryz.prog tk #[.int .i64 hw, .slice (some ⟨g', 0, none⟩) n c'] W fun e w' => e = .returned (.int .u8 R) ∧ Below W.heap.size W w')
    (eT : ∀ args w, (callFunc tk args).run Tryz.prog w = .ok (.enter tk args) w)
    (hG : ∀ W, Below w.heap.size w W → Calls Tryz.prog gv #[.int .i64 hw, .slice (some ⟨g, 0, none⟩) n cap] W fun e w' => e = .returned (.tuple #[V rk rb rs, .int .i64 fa]) ∧ Below W.heap.size W w')
    (eG : ∀ args w, (callFunc gv args).run Tryz.prog w = .ok (.enter gv args) w) :
    Calls Tryz.prog 19 #[.string nm, .slice (some ⟨g, 0, none⟩) n cap] w fun e w' => e = .returned (.tuple #[V rk rb rs, .bool (fa == 0)]) ∧ Below w.heap.size w w' := by
  have hN := named_K K h1 h2 nm (by rw [hf]) (aheadT hah)
  have hU : ∀ w, Calls Tryz.prog 23 #[.int .i64 K] w fun e w' => e = .returned (FV ⟨nm, fm, nx, hw, some tk, some gv⟩) ∧ Below w.heap.size w w' := fun w => by
    have := numbered_K K h1 h2 w; rwa [hf] at this
  have hO : ∀ W g' c', Asc W → KsAt W ⟨g', 0, none⟩ n (fun i => (v i).k) → n ≤ c' → Calls Tryz.prog 24 #[FV ⟨nm, fm, nx, hw, some tk, some gv⟩, .slice (some ⟨g', 0, none⟩) n c'] W fun e w' => e = .returned (.int .u8 R) ∧ Below W.heap.size W w' :=
    fun W g' c' ha hk hc => outcome_yes nm fm nx hw (some gv) tk R (some ⟨g', 0, none⟩) n c' c nms W hF ha hct (fun W' hb => hT W' g' c' (ha.below hb) (hk.below hb) hc) eT
  exact call_yes nm ⟨g, 0, none⟩ n cap v w hv hn h0 K R rk rb fa rs
    (fun W g' c' hb hk hc => Find_yes nm K _ _ n c' R W h1 h2 hR hN hU (fun W' hb' => hO W' g' c' ((ht.below hb).below hb') (hk.below hb') hc))
    (fun W hW => Call_yes K nm fm nx hw tk gv ⟨g, 0, none⟩ n cap v W hU (hv.below hW) ho hn hm h0 R rk rb fa rs hR
      (fun W' g' c' hb hk hc => hO W' g' c' ((ht.below hW).below hb) hk hc) (fun W' hb => hG W' (hW.trans (hb.mono hW.size))) eG)
end
theorem en_oneText (args : Array Value) (w : World) : (callFunc 74 args).run Tryz.prog w = .ok (.enter 74 args) w := by kernel_rfl
theorem en_twoTexts (args : Array Value) (w : World) : (callFunc 81 args).run Tryz.prog w = .ok (.enter 81 args) w := by kernel_rfl
theorem en_allTexts (args : Array Value) (w : World) : (callFunc 79 args).run Tryz.prog w = .ok (.enter 79 args) w := by kernel_rfl
theorem en_left (args : Array Value) (w : World) : (callFunc 76 args).run Tryz.prog w = .ok (.enter 76 args) w := by kernel_rfl
theorem en_right (args : Array Value) (w : World) : (callFunc 77 args).run Tryz.prog w = .ok (.enter 77 args) w := by kernel_rfl
theorem en_concat (args : Array Value) (w : World) : (callFunc 80 args).run Tryz.prog w = .ok (.enter 80 args) w := by kernel_rfl
theorem en_insert (args : Array Value) (w : World) : (callFunc 82 args).run Tryz.prog w = .ok (.enter 82 args) w := by kernel_rfl
theorem en_remove (args : Array Value) (w : World) : (callFunc 83 args).run Tryz.prog w = .ok (.enter 83 args) w := by kernel_rfl
theorem allT_1 {κ : Nat → Int} (h : κ 0 = 19) : allT 1 κ = true := by unfold allT; exact decide_eq_true (fun i hi => by match i, hi with | 0, _ => exact h)
theorem allT_2 {κ : Nat → Int} (h : κ 0 = 19) (g : κ 1 = 19) : allT 2 κ = true := by unfold allT; exact decide_eq_true (fun i hi => by match i, hi with | 0, _ => exact h | 1, _ => exact g)
theorem allI_1 {κ : Nat → Int} (h : intK (κ 0) = true) : allI 1 κ = true := by unfold allI; exact decide_eq_true (fun i hi => by match i, hi with | 0, _ => exact h)
theorem allI_2 {κ : Nat → Int} (h : intK (κ 0) = true) (g : intK (κ 1) = true) : allI 2 κ = true := by unfold allI; exact decide_eq_true (fun i hi => by match i, hi with | 0, _ => exact h | 1, _ => exact g)
/-- Two values; three. -/
def tx2 (u v : Vl) (i : Nat) : Vl := if i = 0 then u else v
def tx3 (u v x : Vl) (i : Nat) : Vl := if i = 0 then u else if i = 1 then v else x
/-- A text as a value; a number as an INT. -/
abbrev tV (s : ByteArray) : Vl := ⟨19, 0, s⟩
abbrev iV (n : Nat) : Vl := ⟨3, n, E0⟩
theorem tV_may (s : ByteArray) (h : s.size ≤ 254) : may3 (tV s).k (tV s).b (tV s).s = true := by simp [may3, h]
theorem iV_may (n : Nat) (h : n ≤ 255) : may3 (iV n).k (iV n).b (iV n).s = true := by simp [may3, mayW, sg]; omega
theorem tV_ok (s : ByteArray) (h : s.size ≤ 254) : VlOk (tV s) := ⟨by show (0 : Int) ≤ 19; omega, by show (19 : Int) < 256; omega, by show (0 : Int) ≤ 0; omega, by show (0 : Int) < 18446744073709551616; omega, by show s.size ≤ maxLen; unfold maxLen; omega⟩
theorem iV_ok (n : Nat) (h : n ≤ 255) : VlOk (iV n) := ⟨by show (0 : Int) ≤ 3; omega, by show (3 : Int) < 256; omega, by show (0 : Int) ≤ n; omega, by show (n : Int) < 18446744073709551616; omega, (by decide : E0.size ≤ maxLen)⟩
theorem iV_num (n : Nat) (h : n ≤ 255) : wrap64 (n : Int) = n := by unfold wrap64; omega
theorem tx2_all {P : Vl → Prop} {u v : Vl} (h : P u) (g : P v) (i : Nat) (hi : i < 2) : P (tx2 u v i) := by unfold tx2; split <;> assumption
theorem tx3_all {P : Vl → Prop} {u v x : Vl} (h : P u) (g : P v) (j : P x) (i : Nat) (hi : i < 3) : P (tx3 u v x i) := by unfold tx3; split; assumption; split <;> assumption
theorem tx2_a {w : World} {g : Nat} {u v : Vl} (h : VsAt w ⟨g, 0, none⟩ 2 (tx2 u v)) : A2 w g u v := by
  obtain ⟨a, b, c⟩ := h 0 (by decide)
  obtain ⟨d, e, f⟩ := h 1 (by decide)
  exact ⟨a, b, c, d, e, f⟩
theorem tx3_a {w : World} {g : Nat} {u v x : Vl} (h : VsAt w ⟨g, 0, none⟩ 3 (tx3 u v x)) : A3 w g u v x := A3.vs h
section
variable (g cap : Nat) (w : World)
theorem call_LEFT (s : ByteArray) (n : Nat) (hs : s.size ≤ 254) (hn : n ≤ s.size) (ht : Asc w) (hv : VsAt w ⟨g, 0, none⟩ 2 (tx2 (tV s) (iV n))) :
    Calls Tryz.prog 19 #[.string ⟨#[76, 69, 70, 84]⟩, .slice (some ⟨g, 0, none⟩) 2 cap] w fun e w' => e = .returned (.tuple #[V 19 0 (s.extract 0 n), .bool true]) ∧ Below w.heap.size w w' :=
  call_any ⟨#[76, 69, 70, 84]⟩ ⟨#[73, 78, 32, 76]⟩ 0 19 74 76 28 g 2 cap _ w (by decide) (by decide) rfl (by decide) 2 _ fldS7 rfl ht (by decide) (by decide) hv
    (tx2_all (tV_ok s hs) (iV_ok n (by omega))) (tx2_all (P := fun x => may3 x.k x.b x.s = true) (tV_may s hs) (iV_may n (by omega))) 19 19 0 0 _ rfl
    (fun W g' c' _ hk hc => oneText_of 19 (by decide) g' 2 c' _ W hk (by decide) (by decide) hc true true (allT_1 rfl) (allI_1 rfl)) en_oneText
    (fun W hb => left_of g cap 19 19 0 n s E0 W n (tx2_a (hv.below hb)) (by omega) (by omega) (by decide) (iV_may n (by omega)) (iV_num n (by omega)) hn hs) en_left
theorem call_RIGHT (s : ByteArray) (n : Nat) (hs : s.size ≤ 254) (hn : n ≤ s.size) (ht : Asc w) (hv : VsAt w ⟨g, 0, none⟩ 2 (tx2 (tV s) (iV n))) :
    Calls Tryz.prog 19 #[.string ⟨#[82, 73, 71, 72, 84]⟩, .slice (some ⟨g, 0, none⟩) 2 cap] w fun e w' => e = .returned (.tuple #[V 19 0 (s.extract (s.size - n) s.size), .bool true]) ∧ Below w.heap.size w w' :=
  call_any ⟨#[82, 73, 71, 72, 84]⟩ ⟨#[73, 78, 32, 76]⟩ 0 19 74 77 29 g 2 cap _ w (by decide) (by decide) rfl (by decide) 2 _ fldS7 rfl ht (by decide) (by decide) hv
    (tx2_all (tV_ok s hs) (iV_ok n (by omega))) (tx2_all (P := fun x => may3 x.k x.b x.s = true) (tV_may s hs) (iV_may n (by omega))) 19 19 0 0 _ rfl
    (fun W g' c' _ hk hc => oneText_of 19 (by decide) g' 2 c' _ W hk (by decide) (by decide) hc true true (allT_1 rfl) (allI_1 rfl)) en_oneText
    (fun W hb => right_of g cap 19 19 0 n s E0 W n (tx2_a (hv.below hb)) (by omega) (by omega) (by decide) (iV_may n (by omega)) (iV_num n (by omega)) hn hs) en_right
theorem call_CONCAT (x y : ByteArray) (hx : x.size ≤ 254) (hy : y.size ≤ 254) (hs : (x ++ y).size ≤ 254) (ht : Asc w) (hv : VsAt w ⟨g, 0, none⟩ 2 (tx2 (tV x) (tV y))) :
    Calls Tryz.prog 19 #[.string ⟨#[67, 79, 78, 67, 65, 84]⟩, .slice (some ⟨g, 0, none⟩) 2 cap] w fun e w' => e = .returned (.tuple #[V 19 0 (x ++ y), .bool true]) ∧ Below w.heap.size w w' := by
  have e : (⟨(ctL (tx2 (tV x) (tV y)) 2).toArray⟩ : ByteArray) = x ++ y := by
    apply ByteArray.ext
    rw [ByteArray.data_append]
    simp [ctL, tx2]
  exact call_any ⟨#[67, 79, 78, 67, 65, 84]⟩ ⟨#[73, 78, 49, 32, 73, 78, 50]⟩ 3 19 79 80 31 g 2 cap _ w (by decide) (by decide) rfl (by decide) 2 _ fldS1 rfl ht (by decide) (by decide) hv
    (tx2_all (tV_ok x hx) (tV_ok y hy)) (tx2_all (P := fun x => may3 x.k x.b x.s = true) (tV_may x hx) (tV_may y hy)) 19 19 0 0 _ rfl
    (fun W g' c' _ hk hc => by have := allTexts_of 19 (by decide) g' 2 c' _ W hk (by decide); rwa [allT_2 (κ := fun i => (tx2 (tV x) (tV y) i).k) rfl rfl] at this) en_allTexts
    (fun W hb => concat_of ⟨g, 0, none⟩ cap 19 2 _ W (hv.below hb) (by decide) (tx2_all (P := fun x => x.s.size ≤ 254) hx hy) 19 0 0 _ (fun W' => by rw [e]; exact Text_yes _ _ hs)) en_concat
theorem call_INSERT_y (s t : ByteArray) (n : Nat) (hs : s.size ≤ 254) (hr : t.size ≤ 254) (hn : n ≤ s.size) (hsum : s.size + t.size ≤ 254) (ht : Asc w) (hv : VsAt w ⟨g, 0, none⟩ 3 (tx3 (tV s) (tV t) (iV n))) :
    Calls Tryz.prog 19 #[.string ⟨#[73, 78, 83, 69, 82, 84]⟩, .slice (some ⟨g, 0, none⟩) 3 cap] w fun e w' => e = .returned (.tuple #[V 19 0 (s.extract 0 n ++ t ++ s.extract n s.size), .bool true]) ∧ Below w.heap.size w w' :=
  call_any ⟨#[73, 78, 83, 69, 82, 84]⟩ ⟨#[73, 78, 49, 32, 73, 78, 50, 32, 80]⟩ 0 19 81 82 32 g 3 cap _ w (by decide) (by decide) rfl (by decide) 3 _ fldS9 rfl ht (by decide) (by decide) hv
    (tx3_all (tV_ok s hs) (tV_ok t hr) (iV_ok n (by omega))) (tx3_all (P := fun x => may3 x.k x.b x.s = true) (tV_may s hs) (tV_may t hr) (iV_may n (by omega))) 19 19 0 0 _ rfl
    (fun W g' c' _ hk hc => twoTexts_of 19 (by decide) g' 3 c' _ W hk (by decide) (by decide) hc true true (allT_2 rfl rfl) (allI_1 rfl)) en_twoTexts
    (fun W hb => insert_yes g cap 19 19 0 19 0 n s t E0 W n (tx3_a (hv.below hb)) (by omega) (by omega) (by decide) (iV_may n (by omega)) (iV_num n (by omega)) hn hs hr hsum) en_insert
theorem call_INSERT_n (s t : ByteArray) (n : Nat) (hs : s.size ≤ 254) (hr : t.size ≤ 254) (hn : n ≤ s.size) (hsum : ¬ s.size + t.size ≤ 254) (ht : Asc w) (hv : VsAt w ⟨g, 0, none⟩ 3 (tx3 (tV s) (tV t) (iV n))) :
    Calls Tryz.prog 19 #[.string ⟨#[73, 78, 83, 69, 82, 84]⟩, .slice (some ⟨g, 0, none⟩) 3 cap] w fun e w' => e = .returned (.tuple #[V 0 0 E0, .bool false]) ∧ Below w.heap.size w w' :=
  call_any ⟨#[73, 78, 83, 69, 82, 84]⟩ ⟨#[73, 78, 49, 32, 73, 78, 50, 32, 80]⟩ 0 19 81 82 32 g 3 cap _ w (by decide) (by decide) rfl (by decide) 3 _ fldS9 rfl ht (by decide) (by decide) hv
    (tx3_all (tV_ok s hs) (tV_ok t hr) (iV_ok n (by omega))) (tx3_all (P := fun x => may3 x.k x.b x.s = true) (tV_may s hs) (tV_may t hr) (iV_may n (by omega))) 19 0 0 5 _ rfl
    (fun W g' c' _ hk hc => twoTexts_of 19 (by decide) g' 3 c' _ W hk (by decide) (by decide) hc true true (allT_2 rfl rfl) (allI_1 rfl)) en_twoTexts
    (fun W hb => insert_no g cap 19 19 0 19 0 n s t E0 W n (tx3_a (hv.below hb)) (by omega) (by omega) (by decide) (iV_may n (by omega)) (iV_num n (by omega)) hn hs hr hsum) en_insert
theorem call_DELETE (s : ByteArray) (n p : Nat) (hs : s.size ≤ 254) (hp1 : 1 ≤ p) (hl : p - 1 + n ≤ s.size) (ht : Asc w) (hv : VsAt w ⟨g, 0, none⟩ 3 (tx3 (tV s) (iV n) (iV p))) :
    Calls Tryz.prog 19 #[.string ⟨#[68, 69, 76, 69, 84, 69]⟩, .slice (some ⟨g, 0, none⟩) 3 cap] w fun e w' => e = .returned (.tuple #[V 19 0 (s.extract 0 (p - 1) ++ s.extract (p - 1 + n) s.size), .bool true]) ∧ Below w.heap.size w w' :=
  call_any ⟨#[68, 69, 76, 69, 84, 69]⟩ ⟨#[73, 78, 32, 76, 32, 80]⟩ 0 19 74 83 33 g 3 cap _ w (by decide) (by decide) rfl (by decide) 3 _ fldS8 rfl ht (by decide) (by decide) hv
    (tx3_all (tV_ok s hs) (iV_ok n (by omega)) (iV_ok p (by omega))) (tx3_all (P := fun x => may3 x.k x.b x.s = true) (tV_may s hs) (iV_may n (by omega)) (iV_may p (by omega))) 19 19 0 0 _ rfl
    (fun W g' c' _ hk hc => oneText_of 19 (by decide) g' 3 c' _ W hk (by decide) (by decide) hc true true (allT_1 rfl) (allI_2 rfl rfl)) en_oneText
    (fun W hb => remove_of g cap 19 19 0 n p s E0 E0 W n p (tx3_a (hv.below hb)) (by omega) (by omega) (by decide) (iV_may n (by omega)) (iV_num n (by omega)) (by omega) (by omega) (by decide) (iV_may p (by omega)) (iV_num p (by omega)) hp1 hl hs) en_remove
end
end Go.Proofs.YtkanhbokdjppoaaGreatDoor
