/- What value.Reckon answers where numbers are reckoned; no statement of the seat is proved here. -/
import Derived.Test.YtpaibmganlaaeaaGreatDoorFz05
import Derived.Laws.FloatArith
import Derived.Deep.RegionHeld3
namespace Go.Proofs.YtpaibmganlaaeaaGreatDoor
set_option linter.unusedVariables false
open Go.RowKit
/-- The bits of the NaN that an invalid operation gives: the language fixes none. -/
def nanOf (x y : Nat) (w : World) : Nat := Question.cut (.nanBits .f64 x y) (w.tape w.drawn (.nanBits .f64 x y))
theorem nanOf_nan (x y : Nat) (w : World) : fnan (nanOf x y w) = true := by
  unfold nanOf fnan
  generalize w.tape w.drawn (.nanBits .f64 x y) = t
  have e : Question.cut (.nanBits .f64 x y) t = (t % 2) * 9223372036854775808 + 9218868437227405312 + 1 + (t / 2) % 4503599627370495 := rfl
  rw [e, decide_eq_true_eq]
  have hu : t / 2 % 4503599627370495 < 4503599627370495 := Nat.mod_lt _ (by omega)
  generalize t / 2 % 4503599627370495 = u at *
  have h2 : t % 2 = 0 ∨ t % 2 = 1 := by omega
  rcases h2 with h2 | h2 <;> rw [h2] <;> omega
theorem run_nan {P : Program} (op : BinOp) (o : op = .add ∨ op = .sub ∨ op = .mul ∨ op = .quo) (t : TypeId) (x y : Nat) (h : floatBits op .f64 x y = none) (w : World) :
    (binOp op t (.float .f64 x) (.float .f64 y)).run P w = .ok (.float .f64 (nanOf x y w)) w.drew := by
  unfold floatBits at h
  rcases o with rfl | rfl | rfl | rfl
  all_goals
    simp only at h
    simp [binOp, Op.floatArith, h, Question.forced, nanOf]
/-- Which operation on floats a number means. -/
def flOp (op : Int) : BinOp := if op = 1 then .add else if op = 2 then .sub else if op = 3 then .mul else .quo
/-- The bits of the LREAL that an operation on two floats gives. -/
def flB (op : Int) (x y : Nat) : Int := match floatBits (flOp op) .f64 x y with | some r => lrealB r | none => 9221120237041090561
theorem flB_s {op : Int} {x y r : Nat} (h : floatBits (flOp op) .f64 x y = some r) : flB op x y = lrealB r := by unfold flB; rw [h]
theorem flB_n {op : Int} {x y : Nat} (h : floatBits (flOp op) .f64 x y = none) : flB op x y = 9221120237041090561 := by unfold flB; rw [h]
theorem bx1 {w w1 : World} {x : Obj} (hb : Below (w.alloc x).heap.size (w.alloc x) w1) : Below w.heap.size w w1 ∧ (∀ o, w1.cell? ⟨w.heap.size, o, none⟩ = (w.alloc x).cell? ⟨w.heap.size, o, none⟩) ∧ (∀ o, w1.frozen? ⟨w.heap.size, o, none⟩ = (w.alloc x).frozen? ⟨w.heap.size, o, none⟩) :=
  ⟨((Below.refl _ _).alloc (Nat.le_refl _) _).trans (hb.mono (by simp)), fun o => hb.cell (p := ⟨w.heap.size, o, none⟩) (by simp), fun o => hb.frozen (p := ⟨w.heap.size, o, none⟩) (by simp)⟩
theorem bx1d {w w1 : World} {x : Obj} (hb : Below (w.alloc x).drew.heap.size (w.alloc x).drew w1) : Below w.heap.size w w1 ∧ (∀ o, w1.cell? ⟨w.heap.size, o, none⟩ = (w.alloc x).cell? ⟨w.heap.size, o, none⟩) ∧ (∀ o, w1.frozen? ⟨w.heap.size, o, none⟩ = (w.alloc x).frozen? ⟨w.heap.size, o, none⟩) :=
  ⟨((Below.refl _ _).alloc (Nat.le_refl _) _).drew.trans (hb.mono (by simp)), fun o => hb.cell (p := ⟨w.heap.size, o, none⟩) (by simp), fun o => hb.frozen (p := ⟨w.heap.size, o, none⟩) (by simp)⟩
theorem LrealR_s (n : Nat) (w : World) : Calls Tryz.prog 175 #[.float .f64 n] w fun e w' => e = .returned (V 18 (lrealB n) E0) ∧ Below w.heap.size w w' := by
  have hx := call_bits
  cases h : fnan n
  · have g : (FloatKind.f64.format.order n n != some .eq) = false := by rw [order_self_ne, h]
    rw [lrealB_f h]
    clear h
    go_enter Tryz.func175, Tryz.ntmps175
    go_wp2
    exact bodyPost_ret (v := V 18 n E0) (by simp [results, Tryz.results175, go_sem]) rfl ⟨rfl, (Below.refl _ _).alloc (Nat.le_refl _) _⟩
  · have g : (FloatKind.f64.format.order n n != some .eq) = true := by rw [order_self_ne, h]
    rw [lrealB_t h]
    clear h
    go_enter Tryz.func175, Tryz.ntmps175
    go_wp2
    exact bodyPost_ret (v := V 18 9221120237041090561 E0) (by simp [results, Tryz.results175, go_sem]) rfl ⟨rfl, (Below.refl _ _).alloc (Nat.le_refl _) _⟩
section
variable (x y : Nat) (w : World)
set_option maxHeartbeats 1000000 in
theorem rf1_s {r : Nat} (h : floatBits .add .f64 x y = some r) :
    Calls Tryz.prog 124 #[.int .i64 1, .float .f64 x, .float .f64 y] w fun e w' => e = .returned (.tuple #[V 18 (lrealB r) E0, .int .i64 0]) ∧ Below w.heap.size w w' := by
  have hr := fun w => run_float_arith (P := Tryz.prog) w .add 71 .f64 x y r h
  clear h
  go_enter Tryz.func124, Tryz.ntmps124
  go_wp2_with (go_at_call 95; refine (Lreal_of _ _).mono ?_; rintro e w1 ⟨rfl, hb⟩; obtain ⟨B, hc, hf⟩ := bx1 hb)
  exact bodyPost_ret (v := .tuple #[V 18 (lrealB r) E0, .int .i64 0]) (by simp [results, Tryz.results124, go_sem, hc]) rfl ⟨rfl, ((B.setCell (by simp) _).setCell (by simp) _).setCell (by simp) _⟩
set_option maxHeartbeats 1000000 in
theorem rf1_n (h : floatBits .add .f64 x y = none) :
    Calls Tryz.prog 124 #[.int .i64 1, .float .f64 x, .float .f64 y] w fun e w' => e = .returned (.tuple #[V 18 (9221120237041090561) E0, .int .i64 0]) ∧ Below w.heap.size w w' := by
  have hr := fun w => run_nan (P := Tryz.prog) .add (by simp) 71 x y h w
  clear h
  go_enter Tryz.func124, Tryz.ntmps124
  go_wp2_with (go_at_call 95; refine (Lreal_of _ _).mono ?_; rw [lrealB_t (nanOf_nan _ _ _)]; rintro e w1 ⟨rfl, hb⟩; obtain ⟨B, hc, hf⟩ := bx1d hb)
  exact bodyPost_ret (v := .tuple #[V 18 (9221120237041090561) E0, .int .i64 0]) (by simp [results, Tryz.results124, go_sem, hc]) rfl ⟨rfl, ((B.setCell (by simp) _).setCell (by simp) _).setCell (by simp) _⟩
set_option maxHeartbeats 1000000 in
theorem rf2_s {r : Nat} (h : floatBits .sub .f64 x y = some r) :
    Calls Tryz.prog 124 #[.int .i64 2, .float .f64 x, .float .f64 y] w fun e w' => e = .returned (.tuple #[V 18 (lrealB r) E0, .int .i64 0]) ∧ Below w.heap.size w w' := by
  have hr := fun w => run_float_arith (P := Tryz.prog) w .sub 71 .f64 x y r h
  clear h
  go_enter Tryz.func124, Tryz.ntmps124
  go_wp2_with (go_at_call 95; refine (Lreal_of _ _).mono ?_; rintro e w1 ⟨rfl, hb⟩; obtain ⟨B, hc, hf⟩ := bx1 hb)
  exact bodyPost_ret (v := .tuple #[V 18 (lrealB r) E0, .int .i64 0]) (by simp [results, Tryz.results124, go_sem, hc]) rfl ⟨rfl, ((B.setCell (by simp) _).setCell (by simp) _).setCell (by simp) _⟩
set_option maxHeartbeats 1000000 in
theorem rf2_n (h : floatBits .sub .f64 x y = none) :
    Calls Tryz.prog 124 #[.int .i64 2, .float .f64 x, .float .f64 y] w fun e w' => e = .returned (.tuple #[V 18 (9221120237041090561) E0, .int .i64 0]) ∧ Below w.heap.size w w' := by
  have hr := fun w => run_nan (P := Tryz.prog) .sub (by simp) 71 x y h w
  clear h
  go_enter Tryz.func124, Tryz.ntmps124
  go_wp2_with (go_at_call 95; refine (Lreal_of _ _).mono ?_; rw [lrealB_t (nanOf_nan _ _ _)]; rintro e w1 ⟨rfl, hb⟩; obtain ⟨B, hc, hf⟩ := bx1d hb)
  exact bodyPost_ret (v := .tuple #[V 18 (9221120237041090561) E0, .int .i64 0]) (by simp [results, Tryz.results124, go_sem, hc]) rfl ⟨rfl, ((B.setCell (by simp) _).setCell (by simp) _).setCell (by simp) _⟩
set_option maxHeartbeats 1000000 in
theorem rf3_s {r : Nat} (h : floatBits .mul .f64 x y = some r) :
    Calls Tryz.prog 124 #[.int .i64 3, .float .f64 x, .float .f64 y] w fun e w' => e = .returned (.tuple #[V 18 (lrealB r) E0, .int .i64 0]) ∧ Below w.heap.size w w' := by
  have hr := fun w => run_float_arith (P := Tryz.prog) w .mul 71 .f64 x y r h
  clear h
  go_enter Tryz.func124, Tryz.ntmps124
  go_wp2_with (go_at_call 95; refine (Lreal_of _ _).mono ?_; rintro e w1 ⟨rfl, hb⟩; obtain ⟨B, hc, hf⟩ := bx1 hb)
  exact bodyPost_ret (v := .tuple #[V 18 (lrealB r) E0, .int .i64 0]) (by simp [results, Tryz.results124, go_sem, hc]) rfl ⟨rfl, ((B.setCell (by simp) _).setCell (by simp) _).setCell (by simp) _⟩
set_option maxHeartbeats 1000000 in
theorem rf3_n (h : floatBits .mul .f64 x y = none) :
    Calls Tryz.prog 124 #[.int .i64 3, .float .f64 x, .float .f64 y] w fun e w' => e = .returned (.tuple #[V 18 (9221120237041090561) E0, .int .i64 0]) ∧ Below w.heap.size w w' := by
  have hr := fun w => run_nan (P := Tryz.prog) .mul (by simp) 71 x y h w
  clear h
  go_enter Tryz.func124, Tryz.ntmps124
  go_wp2_with (go_at_call 95; refine (Lreal_of _ _).mono ?_; rw [lrealB_t (nanOf_nan _ _ _)]; rintro e w1 ⟨rfl, hb⟩; obtain ⟨B, hc, hf⟩ := bx1d hb)
  exact bodyPost_ret (v := .tuple #[V 18 (9221120237041090561) E0, .int .i64 0]) (by simp [results, Tryz.results124, go_sem, hc]) rfl ⟨rfl, ((B.setCell (by simp) _).setCell (by simp) _).setCell (by simp) _⟩
set_option maxHeartbeats 1000000 in
theorem rf4_s {r : Nat} (h : floatBits .quo .f64 x y = some r) :
    Calls Tryz.prog 124 #[.int .i64 4, .float .f64 x, .float .f64 y] w fun e w' => e = .returned (.tuple #[V 18 (lrealB r) E0, .int .i64 0]) ∧ Below w.heap.size w w' := by
  have hr := fun w => run_float_arith (P := Tryz.prog) w .quo 71 .f64 x y r h
  clear h
  go_enter Tryz.func124, Tryz.ntmps124
  go_wp2_with (go_at_call 95; refine (Lreal_of _ _).mono ?_; rintro e w1 ⟨rfl, hb⟩; obtain ⟨B, hc, hf⟩ := bx1 hb)
  exact bodyPost_ret (v := .tuple #[V 18 (lrealB r) E0, .int .i64 0]) (by simp [results, Tryz.results124, go_sem, hc]) rfl ⟨rfl, ((B.setCell (by simp) _).setCell (by simp) _).setCell (by simp) _⟩
set_option maxHeartbeats 1000000 in
theorem rf4_n (h : floatBits .quo .f64 x y = none) :
    Calls Tryz.prog 124 #[.int .i64 4, .float .f64 x, .float .f64 y] w fun e w' => e = .returned (.tuple #[V 18 (9221120237041090561) E0, .int .i64 0]) ∧ Below w.heap.size w w' := by
  have hr := fun w => run_nan (P := Tryz.prog) .quo (by simp) 71 x y h w
  clear h
  go_enter Tryz.func124, Tryz.ntmps124
  go_wp2_with (go_at_call 95; refine (Lreal_of _ _).mono ?_; rw [lrealB_t (nanOf_nan _ _ _)]; rintro e w1 ⟨rfl, hb⟩; obtain ⟨B, hc, hf⟩ := bx1d hb)
  exact bodyPost_ret (v := .tuple #[V 18 (9221120237041090561) E0, .int .i64 0]) (by simp [results, Tryz.results124, go_sem, hc]) rfl ⟨rfl, ((B.setCell (by simp) _).setCell (by simp) _).setCell (by simp) _⟩
end
set_option maxHeartbeats 1000000 in
theorem rf_no (op : Int) (x y : Nat) (w : World) (o1 : ¬ op = 1) (o2 : ¬ op = 2) (o3 : ¬ op = 3) (o4 : ¬ op = 4) :
    Calls Tryz.prog 124 #[.int .i64 op, .float .f64 x, .float .f64 y] w fun e w' => e = .returned (.tuple #[V 0 0 E0, .int .i64 8]) ∧ Below w.heap.size w w' := by
  have p1 : (op == 1) = false := by simpa using o1
  have p2 : (op == 2) = false := by simpa using o2
  have p3 : (op == 3) = false := by simpa using o3
  have p4 : (op == 4) = false := by simpa using o4
  go_enter Tryz.func124, Tryz.ntmps124
  go_wp2
  refine bodyPost_ret (v := .tuple #[V 0 0 E0, .int .i64 8]) (by simp [results, Tryz.results124, go_sem]) rfl ⟨rfl, ?_⟩
  go_grown
theorem rf_yes (op : Int) (x y : Nat) (w : World) (o : 1 ≤ op ∧ op ≤ 4) :
    Calls Tryz.prog 124 #[.int .i64 op, .float .f64 x, .float .f64 y] w fun e w' => e = .returned (.tuple #[V 18 (flB op x y) E0, .int .i64 0]) ∧ Below w.heap.size w w' := by
  have : op = 1 ∨ op = 2 ∨ op = 3 ∨ op = 4 := by omega
  rcases this with rfl | rfl | rfl | rfl
  · cases h : floatBits (flOp 1) .f64 x y
    · rw [flB_n h]; exact rf1_n x y w h
    · rw [flB_s h]; exact rf1_s x y w h
  · cases h : floatBits (flOp 2) .f64 x y
    · rw [flB_n h]; exact rf2_n x y w h
    · rw [flB_s h]; exact rf2_s x y w h
  · cases h : floatBits (flOp 3) .f64 x y
    · rw [flB_n h]; exact rf3_n x y w h
    · rw [flB_s h]; exact rf3_s x y w h
  · cases h : floatBits (flOp 4) .f64 x y
    · rw [flB_n h]; exact rf4_n x y w h
    · rw [flB_s h]; exact rf4_s x y w h
end Go.Proofs.YtpaibmganlaaeaaGreatDoor
namespace Go.Proofs.YtpaibmganlaaeaaGreatDoor
set_option linter.unusedVariables false
open Go.RowKit
theorem step_drew {w1 : World} {h : Nat} (z : h < w1.heap.size) : h < w1.drew.heap.size := z
section
variable (op k b k' c : Int) (s t : ByteArray) (w : World)
set_option maxHeartbeats 1000000 in
theorem Reckon_x1 (h0 : 0 ≤ b) (h1 : b < 18446744073709551616) (hk : 0 ≤ k ∧ k < 256) (hs : s.size ≤ maxLen) (m : may3 k b s = false) :
    Calls Tryz.prog 86 #[.int .i64 op, V k b s, V k' c t] w fun e w' => e = .returned (.tuple #[V 0 0 E0, .int .i64 8]) ∧ Below w.heap.size w w' := by
  go_enter Tryz.func86, Tryz.ntmps86
  go_wp2_with (first | (go_at_call 15; refine (May_is _ _ _ _ false h0 h1 hk hs m).mono ?_; rintro e w1 ⟨rfl, hb⟩; obtain ⟨z, a0, a1, a2, a3, a4, a5, a6, a7, a8, a9, HB⟩ := step_ab0 hb; clear hb))
  exact bodyPost_ret (v := .tuple #[V 0 0 E0, .int .i64 8]) (by simp [results, Tryz.results86, go_sem, a6, a7, a8]) rfl ⟨rfl, ((HB.setCell (by simp; omega) _).setCell (by simp; omega) _).setCell (by simp; omega) _⟩
set_option maxHeartbeats 1000000 in
theorem Reckon_x2 (h0 : 0 ≤ b) (h1 : b < 18446744073709551616) (hk : 0 ≤ k ∧ k < 256) (hs : s.size ≤ maxLen) (g0 : 0 ≤ c) (g1 : c < 18446744073709551616) (gk : 0 ≤ k' ∧ k' < 256) (gs : t.size ≤ maxLen) (m : may3 k b s = true) (n : may3 k' c t = false) :
    Calls Tryz.prog 86 #[.int .i64 op, V k b s, V k' c t] w fun e w' => e = .returned (.tuple #[V 0 0 E0, .int .i64 8]) ∧ Below w.heap.size w w' := by
  have M : Hid _ := m
  have N : Hid _ := n
  clear m n
  go_enter Tryz.func86, Tryz.ntmps86
  go_wp2_with fail
  refine (May_is _ _ _ _ true h0 h1 hk hs M.out).mono ?_
  rintro e w1 ⟨rfl, hb⟩
  obtain ⟨z, a0, a1, a2, a3, a4, a5, a6, a7, a8, a9, HB⟩ := step_ab0 hb
  clear hb
  go_wp2_with fail
  refine (May_is _ _ _ _ false g0 g1 gk gs N.out).mono ?_
  rintro e w2 ⟨rfl, hb2⟩
  obtain ⟨y, n0, n1, n2, n3⟩ := step3 hb2 z
  go_wp2
  exact bodyPost_ret (v := .tuple #[V 0 0 E0, .int .i64 8]) (by simp [results, Tryz.results86, go_sem, n2, a6, a7, a8]) rfl ⟨rfl, (((HB.trans (hb2.mono (by omega))).setCell (by simp; omega) _).setCell (by simp; omega) _).setCell (by simp; omega) _⟩
set_option maxHeartbeats 2000000 in
theorem Reckon_c (ho : 9 ≤ op ∧ op ≤ 14) (h0 : 0 ≤ b) (h1 : b < 18446744073709551616) (hk : 0 ≤ k ∧ k < 256) (hs : s.size ≤ maxLen) (g0 : 0 ≤ c) (g1 : c < 18446744073709551616) (gs : t.size ≤ maxLen) (m : may3 k b s = true) (n : may3 k c t = true) :
    Calls Tryz.prog 86 #[.int .i64 op, V k b s, V k c t] w fun e w' => e = .returned (.tuple #[V 1 (tb (hB op k b c s t)) E0, .int .i64 0]) ∧ Below w.heap.size w w' := by
  have M : Hid _ := m
  have N : Hid _ := n
  have HH : Hid _ := holds_of b c s t
  clear m n
  have ho' : Hid (9 ≤ op ∧ op ≤ 14) := ho
  have o1 : 9 ≤ op := by omega
  have o2 : op ≤ 14 := by omega
  clear ho
  go_enter Tryz.func86, Tryz.ntmps86
  go_wp2_with fail
  refine (May_is _ _ _ _ true h0 h1 hk hs M.out).mono ?_
  rintro e w1 ⟨rfl, hb⟩
  obtain ⟨z, a0, a1, a2, a3, a4, a5, a6, a7, a8, a9, HB⟩ := step_ab0 hb
  clear hb
  go_wp2_with fail
  refine (May_is _ _ _ _ true g0 g1 hk gs N.out).mono ?_
  rintro e w2 ⟨rfl, hb2⟩
  obtain ⟨y, n0, n1, n2, n3⟩ := step3 hb2 z
  go_wp2_with fail
  refine (HH.out _ op k ho'.out h0 h1 g0 g1).mono ?_
  rintro e w3 ⟨rfl, hb3⟩
  obtain ⟨x, m0, m1, m2, m3⟩ := step3 hb3 y
  go_wp2_with fail
  refine (Bool_of _ _).mono ?_
  rintro e w4 ⟨rfl, hb4⟩
  obtain ⟨v, l0, l1, l2, l3⟩ := step3 hb4 x
  go_wp2
  exact bodyPost_ret (v := .tuple #[V 1 (tb (hB op k b c s t)) E0, .int .i64 0]) (by simp [results, Tryz.results86, go_sem, l2, m2, n2, a6, a7, a8]) rfl ⟨rfl, (((((HB.trans (hb2.mono (by omega))).trans (hb3.mono (by omega))).trans (hb4.mono (by omega))).setCell (by simp; omega) _).setCell (by simp; omega) _).setCell (by simp; omega) _⟩
set_option maxHeartbeats 2000000 in
theorem Reckon_f (h0 : 0 ≤ b) (h1 : b < 18446744073709551616) (hs : s.size ≤ maxLen) (g0 : 0 ≤ c) (g1 : c < 18446744073709551616) (gs : t.size ≤ maxLen) (m : may3 18 b s = true) (n : may3 18 c t = true) (o : op < 9 ∨ 14 < op) {f f' : Int} (R : Hid (∀ w, Calls Tryz.prog 124 #[.int .i64 op, .float .f64 b.toNat, .float .f64 c.toNat] w fun e w' => e = .returned (.tuple #[V k' f' E0, .int .i64 f]) ∧ Below w.heap.size w w')) :
    Calls Tryz.prog 86 #[.int .i64 op, V 18 b s, V 18 c t] w fun e w' => e = .returned (.tuple #[V k' f' E0, .int .i64 f]) ∧ Below w.heap.size w w' := by
  have M : Hid _ := m
  have N : Hid _ := n
  clear m n
  have hx := call_frombits
  have hk : 0 ≤ (18 : Int) ∧ (18 : Int) < 256 := by omega
  rcases o with o | o
  all_goals
    go_enter Tryz.func86, Tryz.ntmps86
    go_wp2_with fail
    refine (May_is _ _ _ _ true h0 h1 hk hs M.out).mono ?_
    rintro e w1 ⟨rfl, hb⟩
    obtain ⟨z, a0, a1, a2, a3, a4, a5, a6, a7, a8, a9, HB⟩ := step_ab0 hb
    clear hb
    go_wp2_with fail
    refine (May_is _ _ _ _ true g0 g1 hk gs N.out).mono ?_
    rintro e w2 ⟨rfl, hb2⟩
    obtain ⟨y, n0, n1, n2, n3⟩ := step3 hb2 z
    have B2 := HB.trans (hb2.mono (by omega))
    have q1 : ¬ w.heap.size + 1 + 1 = w.heap.size := by omega
    go_wp2_with fail
    go_region_held3 (fun w' => w'.cell? ⟨w.heap.size, 1, none⟩ = some (.int .u64 b) ∧ w'.cell? ⟨w.heap.size + 1, 1, none⟩ = some (.int .u64 c)) (go_keep)
      (first | (go_at_call 124; refine (R.out _).mono ?_; rintro e w3 ⟨rfl, hb3⟩; obtain ⟨x, m0, m1, m2, m3⟩ := step3 hb3 (step_drew y)))
    go_wp2
    refine bodyPost_ret (v := .tuple #[V k' f' E0, .int .i64 f]) (by simp [results, Tryz.results86, go_sem, m2, n2, a6, a7, a8]) rfl ⟨rfl, ?_⟩
    have B3 := B2.drew.trans (hb3.mono (by have : w2.drew.heap.size = w2.heap.size := rfl; omega))
    go_grown
end
end Go.Proofs.YtpaibmganlaaeaaGreatDoor
namespace Go.Proofs.YtpaibmganlaaeaaGreatDoor
set_option linter.unusedVariables false
open Go.RowKit
/-- An operation on bits. -/
def bitB (op b c : Int) : Int := if op = 6 then bits .and .u64 b c else if op = 7 then bits .or .u64 b c else bits .xor .u64 b c
set_option maxHeartbeats 400000 in
theorem reckonBits_of (op b c : Int) (w : World) (o : 6 ≤ op ∧ op ≤ 8) : Calls Tryz.prog 126 #[.int .i64 op, .int .u64 b, .int .u64 c] w fun e w' => e = .returned (.int .u64 (bitB op b c)) ∧ w' = w := by
  have : op = 6 ∨ op = 7 ∨ op = 8 := by omega
  rcases this with rfl | rfl | rfl
  all_goals
    go_enter Tryz.func126, Tryz.ntmps126
    go_wp2
    go_ret
    exact ⟨rfl, rfl⟩
section
variable (op k b c : Int) (s t : ByteArray) (w : World)
set_option maxHeartbeats 2000000 in
theorem Reckon_b1 (h0 : 0 ≤ b) (h1 : b < 18446744073709551616) (hk : 0 ≤ (1 : Int) ∧ (1 : Int) < 256) (hs : s.size ≤ maxLen) (g0 : 0 ≤ c) (g1 : c < 18446744073709551616) (gs : t.size ≤ maxLen) (m : may3 1 b s = true) (n : may3 1 c t = true) (o : 6 ≤ op ∧ op ≤ 8) :
    Calls Tryz.prog 86 #[.int .i64 op, V 1 b s, V 1 c t] w fun e w' => e = .returned (.tuple #[V 1 (bitB op b c) E0, .int .i64 0]) ∧ Below w.heap.size w w' := by
  have M : Hid _ := m
  have N : Hid _ := n
  clear m n
  have R : Hid _ := fun w => reckonBits_of op b c w o
  obtain ⟨o1, o2⟩ := o
  generalize hv : bitB op b c = v at *
  clear hv
  go_enter Tryz.func86, Tryz.ntmps86
  go_wp2_with fail
  refine (May_is _ _ _ _ true h0 h1 hk hs M.out).mono ?_
  rintro e w1 ⟨rfl, hb⟩
  obtain ⟨z, a0, a1, a2, a3, a4, a5, a6, a7, a8, a9, HB⟩ := step_ab0 hb
  clear hb
  go_wp2_with fail
  refine (May_is _ _ _ _ true g0 g1 hk gs N.out).mono ?_
  rintro e w2 ⟨rfl, hb2⟩
  obtain ⟨y, n0, n1, n2, n3⟩ := step3 hb2 z
  have B2 := HB.trans (hb2.mono (by omega))
  have q1 : ¬ w.heap.size + 1 + 1 = w.heap.size := by omega
  go_wp2
  go_region_held3 (fun w' => w'.cell? ⟨w.heap.size, 0, none⟩ = some (.int .u8 1) ∧ w'.cell? ⟨w.heap.size, 1, none⟩ = some (.int .u64 b) ∧ w'.cell? ⟨w.heap.size + 1, 1, none⟩ = some (.int .u64 c)) (go_keep)
    (first | (go_at_call 126; refine (R.out _).mono ?_; rintro e w3 ⟨rfl, rfl⟩))
  go_wp2
  have B3 := B2.drew
  refine bodyPost_ret (v := .tuple #[V 1 v E0, .int .i64 0]) (by simp [results, Tryz.results86, go_sem, n2, a6, a7, a8]) rfl ⟨rfl, ?_⟩
  go_grown
set_option maxHeartbeats 2000000 in
theorem Reckon_b2 (h0 : 0 ≤ b) (h1 : b < 18446744073709551616) (hk : 0 ≤ (k : Int) ∧ (k : Int) < 256) (hs : s.size ≤ maxLen) (g0 : 0 ≤ c) (g1 : c < 18446744073709551616) (gs : t.size ≤ maxLen) (m : may3 k b s = true) (n : may3 k c t = true) (o : 6 ≤ op ∧ op ≤ 8) (hb1 : 10 ≤ k) (hb2 : k ≤ 13) :
    Calls Tryz.prog 86 #[.int .i64 op, V k b s, V k c t] w fun e w' => e = .returned (.tuple #[V k (bitB op b c) E0, .int .i64 0]) ∧ Below w.heap.size w w' := by
  have M : Hid _ := m
  have N : Hid _ := n
  clear m n
  have R : Hid _ := fun w => reckonBits_of op b c w o
  obtain ⟨o1, o2⟩ := o
  generalize hv : bitB op b c = v at *
  clear hv
  have k18 : (k == 18) = false := by simp; omega
  have k1 : (k == 1) = false := by simp; omega
  go_enter Tryz.func86, Tryz.ntmps86
  go_wp2_with fail
  refine (May_is _ _ _ _ true h0 h1 hk hs M.out).mono ?_
  rintro e w1 ⟨rfl, hb⟩
  obtain ⟨z, a0, a1, a2, a3, a4, a5, a6, a7, a8, a9, HB⟩ := step_ab0 hb
  clear hb
  go_wp2_with fail
  refine (May_is _ _ _ _ true g0 g1 hk gs N.out).mono ?_
  rintro e w2 ⟨rfl, hb2⟩
  obtain ⟨y, n0, n1, n2, n3⟩ := step3 hb2 z
  have B2 := HB.trans (hb2.mono (by omega))
  have q1 : ¬ w.heap.size + 1 + 1 = w.heap.size := by omega
  go_wp2
  go_region_held3 (fun w' => w'.cell? ⟨w.heap.size, 0, none⟩ = some (.int .u8 k) ∧ w'.cell? ⟨w.heap.size, 1, none⟩ = some (.int .u64 b) ∧ w'.cell? ⟨w.heap.size + 1, 1, none⟩ = some (.int .u64 c)) (go_keep)
    (first | (go_at_call 126; refine (R.out _).mono ?_; rintro e w3 ⟨rfl, rfl⟩))
  go_wp2
  have B3 := B2.drew
  refine bodyPost_ret (v := .tuple #[V k v E0, .int .i64 0]) (by simp [results, Tryz.results86, go_sem, n2, a6, a7, a8]) rfl ⟨rfl, ?_⟩
  go_grown
end
end Go.Proofs.YtpaibmganlaaeaaGreatDoor
namespace Go.Proofs.YtpaibmganlaaeaaGreatDoor
set_option linter.unusedVariables false
open Go.RowKit
section
variable (op k b k' c : Int) (s t : ByteArray) (w : World)
set_option maxHeartbeats 4000000 in
theorem Reckon_ny (h0 : 0 ≤ b) (h1 : b < 18446744073709551616) (hk : 0 ≤ k ∧ k < 256) (hs : s.size ≤ maxLen) (g0 : 0 ≤ c) (g1 : c < 18446744073709551616) (gk : 0 ≤ k' ∧ k' < 256) (gs : t.size ≤ maxLen) (m : may3 k b s = true) (n : may3 k' c t = true) (d : (k == k') = false) {kk : Int} (kz : (kk == 0) = false) (O : Hid (∀ w, Calls Tryz.prog 127 #[.int .i64 op, .int .u8 k, .int .u8 k'] w fun e w' => e = .returned (.int .u8 kk) ∧ w' = w)) {n' K B' f : Int} (R : Hid (∀ w, Calls Tryz.prog 128 #[.int .i64 op, NB (num k b), NB (num k' c)] w fun e w' => e = .returned (.tuple #[NB n', .int .i64 0]) ∧ Below w.heap.size w w')) (F : Hid (∀ w, Calls Tryz.prog 130 #[.int .u8 kk, NB n', .int .i64 1] w fun e w' => e = .returned (.tuple #[V K B' E0, .int .i64 f]) ∧ Below w.heap.size w w')) :
    Calls Tryz.prog 86 #[.int .i64 op, V k b s, V k' c t] w fun e w' => e = .returned (.tuple #[V K B' E0, .int .i64 f]) ∧ Below w.heap.size w w' := by
  have M : Hid _ := m
  have N : Hid _ := n
  clear m n
  go_enter Tryz.func86, Tryz.ntmps86
  go_wp2_with fail
  refine (May_is _ _ _ _ true h0 h1 hk hs M.out).mono ?_
  rintro e w1 ⟨rfl, hb⟩
  obtain ⟨z, a0, a1, a2, a3, a4, a5, a6, a7, a8, a9, HB⟩ := step_ab0 hb
  clear hb
  go_wp2_with fail
  refine (May_is _ _ _ _ true g0 g1 gk gs N.out).mono ?_
  rintro e w2 ⟨rfl, hb2⟩
  obtain ⟨y, n0, n1, n2, n3⟩ := step3 hb2 z
  have q1 : ¬ w.heap.size + 1 + 1 = w.heap.size := by omega
  have y3 := hb2.size
  go_wp2_with (first | (go_at_call 127; refine (O.out _).mono ?_; rintro e w3 ⟨rfl, rfl⟩))
  have e1 := World.new_ne w3 ⟨w.heap.size, 0, none⟩ ((n0 0).trans a0)
  have e2 := World.new_ne w3 ⟨w.heap.size + 1, 0, none⟩ ((n1 0).trans a3)
  have e3 := World.new_ne w3 ⟨w.heap.size + 1 + 1, 0, none⟩ ((n2 0).trans a6)
  go_region_held3 (fun w' => w'.cell? ⟨w.heap.size, 0, none⟩ = some (.int .u8 k) ∧ w'.cell? ⟨w.heap.size, 1, none⟩ = some (.int .u64 b) ∧ w'.cell? ⟨w.heap.size, 2, none⟩ = some (.string s) ∧ w'.cell? ⟨w.heap.size + 1, 0, none⟩ = some (.int .u8 k') ∧ w'.cell? ⟨w.heap.size + 1, 1, none⟩ = some (.int .u64 c) ∧ w'.cell? ⟨w.heap.size + 1, 2, none⟩ = some (.string t)) (go_keep)
    (first | (go_at_call_of 129 s; refine (numberOf_of k b s _ h0 h1).mono ?_; rintro e w4 ⟨rfl, hb4⟩; obtain ⟨c4, f4⟩ := bcell hb4; have s4 := hb4.size; (try simp at s4); obtain ⟨x4, m0, m1, m2, m3⟩ := step3 hb4 (h := w.heap.size) (by first | omega | (simp; omega)); have d4 : ¬ w4.heap.size = w.heap.size := (by omega); have d4' : ¬ w4.heap.size = w.heap.size + 1 := (by omega); have d4'' : ¬ w4.heap.size = w.heap.size + 1 + 1 := (by omega); (try have u4 : w3.heap.size < w4.heap.size := (by omega)); have y4 : w1.heap.size ≤ w4.heap.size := (by omega); have B4 : Below w1.heap.size w1 w4 := (by first | exact (hb2.drew).trans (hb4.mono (by first | omega | (simp; omega))) | exact ((hb2.drew).alloc (by first | omega | (simp; omega)) _).trans (hb4.mono (by first | omega | (simp; omega))) | exact ((hb2.alloc (by first | omega | (simp; omega)) _).drew).trans (hb4.mono (by first | omega | (simp; omega))))) | (go_at_call_of 129 t; refine (numberOf_of k' c t _ g0 g1).mono ?_; rintro e w5 ⟨rfl, hb5⟩; obtain ⟨c5, f5⟩ := bcell hb5; have s5 := hb5.size; (try simp at s5); obtain ⟨x5, l0, l1, l2, l3⟩ := step3 hb5 (h := w.heap.size) (by first | omega | (simp; omega)); have d5 : ¬ w5.heap.size = w.heap.size := (by omega); have d5' : ¬ w5.heap.size = w.heap.size + 1 := (by omega); have d5'' : ¬ w5.heap.size = w.heap.size + 1 + 1 := (by omega); (try have t5 : w3.heap.size < w5.heap.size := (by omega)); (try have u5 : w4.heap.size < w5.heap.size := (by omega)); have y5 : w1.heap.size ≤ w5.heap.size := (by omega); have B5 : Below w1.heap.size w1 w5 := (by first | exact (B4).trans (hb5.mono (by first | omega | (simp; omega))) | exact ((B4).alloc (by first | omega | (simp; omega)) _).trans (hb5.mono (by first | omega | (simp; omega))) | exact ((hb2.alloc (by first | omega | (simp; omega)) _).drew).trans (hb5.mono (by first | omega | (simp; omega))))) | (go_at_call 128; refine (R.out _).mono ?_; rintro e w6 ⟨rfl, hb6⟩; obtain ⟨c6, f6⟩ := bcell hb6; have s6 := hb6.size; (try simp at s6); obtain ⟨x6, p0, p1, p2, p3⟩ := step3 hb6 (h := w.heap.size) (by first | omega | (simp; omega)); have y6 : w1.heap.size ≤ w6.heap.size := (by omega); have B6 : Below w1.heap.size w1 w6 := (by first | exact (B5).trans (hb6.mono (by first | omega | (simp; omega))) | exact ((B5).alloc (by first | omega | (simp; omega)) _).trans (hb6.mono (by first | omega | (simp; omega))) | exact ((hb2.alloc (by first | omega | (simp; omega)) _).drew).trans (hb6.mono (by first | omega | (simp; omega))))))
  all_goals
    go_wp2_with (first | (go_at_call 130; refine (F.out _).mono ?_; rintro e w7 ⟨rfl, hb7⟩; obtain ⟨x7, r0, r1, r2, r3⟩ := step3 hb7 (h := w.heap.size) (by first | omega | (simp; omega))))
    have C7 : Below w1.heap.size w1 w7 := by first | exact ((B6.setCell (by first | omega | (simp; omega)) _).setCell (by first | omega | (simp; omega)) _).trans (hb7.mono (by first | omega | (simp; omega))) | exact (B6.alloc (by first | omega | (simp; omega)) _).trans (hb7.mono (by first | omega | (simp; omega)))
    have v0 := (C7.cell (p := ⟨w.heap.size + 1 + 1, 0, none⟩) z).trans a6
    have v1 := (C7.cell (p := ⟨w.heap.size + 1 + 1, 1, none⟩) z).trans a7
    have v2 := (C7.cell (p := ⟨w.heap.size + 1 + 1, 2, none⟩) z).trans a8
    have B7 : Below w.heap.size w w7 := HB.trans (C7.mono (by omega))
    refine bodyPost_ret (v := .tuple #[V K B' E0, .int .i64 f]) (by simp [results, Tryz.results86, go_sem, v0, v1, v2]) rfl ⟨rfl, ?_⟩
    go_grown
end
end Go.Proofs.YtpaibmganlaaeaaGreatDoor
namespace Go.Proofs.YtpaibmganlaaeaaGreatDoor
set_option linter.unusedVariables false
open Go.RowKit
theorem three_set2 {W : World} {h : Nat} {x y z : Value} (v0 : W.cell? ⟨h, 0, none⟩ = some x) (v1 : W.cell? ⟨h, 1, none⟩ = some y) (v2 : W.cell? ⟨h, 2, none⟩ = some z) (a b c : Value) :
    (((W.setCell ⟨h, 0, none⟩ a).setCell ⟨h, 1, none⟩ b).setCell ⟨h, 2, none⟩ c).cell? ⟨h, 0, none⟩ = some a ∧ (((W.setCell ⟨h, 0, none⟩ a).setCell ⟨h, 1, none⟩ b).setCell ⟨h, 2, none⟩ c).cell? ⟨h, 1, none⟩ = some b ∧ (((W.setCell ⟨h, 0, none⟩ a).setCell ⟨h, 1, none⟩ b).setCell ⟨h, 2, none⟩ c).cell? ⟨h, 2, none⟩ = some c := by
  refine ⟨?_, ?_, ?_⟩ <;> simp [go_sem, v0, v1, v2]
section
variable (op k b k' c : Int) (s t : ByteArray) (w : World)
set_option maxHeartbeats 4000000 in
theorem Reckon_nn (h0 : 0 ≤ b) (h1 : b < 18446744073709551616) (hk : 0 ≤ k ∧ k < 256) (hs : s.size ≤ maxLen) (g0 : 0 ≤ c) (g1 : c < 18446744073709551616) (gk : 0 ≤ k' ∧ k' < 256) (gs : t.size ≤ maxLen) (m : may3 k b s = true) (n : may3 k' c t = true) (d : (k == k') = false) {kk : Int} (kz : (kk == 0) = false) (O : Hid (∀ w, Calls Tryz.prog 127 #[.int .i64 op, .int .u8 k, .int .u8 k'] w fun e w' => e = .returned (.int .u8 kk) ∧ w' = w)) {f : Int} (fz : (f != 0) = true) (R : Hid (∀ w, Calls Tryz.prog 128 #[.int .i64 op, NB (num k b), NB (num k' c)] w fun e w' => e = .returned (.tuple #[N0, .int .i64 f]) ∧ Below w.heap.size w w')) :
    Calls Tryz.prog 86 #[.int .i64 op, V k b s, V k' c t] w fun e w' => e = .returned (.tuple #[V 0 0 E0, .int .i64 f]) ∧ Below w.heap.size w w' := by
  have M : Hid _ := m
  have N : Hid _ := n
  clear m n
  go_enter Tryz.func86, Tryz.ntmps86
  go_wp2_with fail
  refine (May_is _ _ _ _ true h0 h1 hk hs M.out).mono ?_
  rintro e w1 ⟨rfl, hb⟩
  obtain ⟨z, a0, a1, a2, a3, a4, a5, a6, a7, a8, a9, HB⟩ := step_ab0 hb
  clear hb
  go_wp2_with fail
  refine (May_is _ _ _ _ true g0 g1 gk gs N.out).mono ?_
  rintro e w2 ⟨rfl, hb2⟩
  obtain ⟨y, n0, n1, n2, n3⟩ := step3 hb2 z
  have q1 : ¬ w.heap.size + 1 + 1 = w.heap.size := by omega
  have y3 := hb2.size
  go_wp2_with (first | (go_at_call 127; refine (O.out _).mono ?_; rintro e w3 ⟨rfl, rfl⟩))
  have e1 := World.new_ne w3 ⟨w.heap.size, 0, none⟩ ((n0 0).trans a0)
  have e2 := World.new_ne w3 ⟨w.heap.size + 1, 0, none⟩ ((n1 0).trans a3)
  have e3 := World.new_ne w3 ⟨w.heap.size + 1 + 1, 0, none⟩ ((n2 0).trans a6)
  go_region_held3 (fun w' => w'.cell? ⟨w.heap.size, 0, none⟩ = some (.int .u8 k) ∧ w'.cell? ⟨w.heap.size, 1, none⟩ = some (.int .u64 b) ∧ w'.cell? ⟨w.heap.size, 2, none⟩ = some (.string s) ∧ w'.cell? ⟨w.heap.size + 1, 0, none⟩ = some (.int .u8 k') ∧ w'.cell? ⟨w.heap.size + 1, 1, none⟩ = some (.int .u64 c) ∧ w'.cell? ⟨w.heap.size + 1, 2, none⟩ = some (.string t)) (go_keep)
    (first | (go_at_call_of 129 s; refine (numberOf_of k b s _ h0 h1).mono ?_; rintro e w4 ⟨rfl, hb4⟩; obtain ⟨c4, f4⟩ := bcell hb4; have s4 := hb4.size; (try simp at s4); obtain ⟨x4, m0, m1, m2, m3⟩ := step3 hb4 (h := w.heap.size) (by first | omega | (simp; omega)); have d4 : ¬ w4.heap.size = w.heap.size := (by omega); have d4' : ¬ w4.heap.size = w.heap.size + 1 := (by omega); have d4'' : ¬ w4.heap.size = w.heap.size + 1 + 1 := (by omega); (try have u4 : w3.heap.size < w4.heap.size := (by omega)); have y4 : w1.heap.size ≤ w4.heap.size := (by omega); have B4 : Below w1.heap.size w1 w4 := (by first | exact (hb2.drew).trans (hb4.mono (by first | omega | (simp; omega))) | exact ((hb2.drew).alloc (by first | omega | (simp; omega)) _).trans (hb4.mono (by first | omega | (simp; omega))) | exact ((hb2.alloc (by first | omega | (simp; omega)) _).drew).trans (hb4.mono (by first | omega | (simp; omega))))) | (go_at_call_of 129 t; refine (numberOf_of k' c t _ g0 g1).mono ?_; rintro e w5 ⟨rfl, hb5⟩; obtain ⟨c5, f5⟩ := bcell hb5; have s5 := hb5.size; (try simp at s5); obtain ⟨x5, l0, l1, l2, l3⟩ := step3 hb5 (h := w.heap.size) (by first | omega | (simp; omega)); have d5 : ¬ w5.heap.size = w.heap.size := (by omega); have d5' : ¬ w5.heap.size = w.heap.size + 1 := (by omega); have d5'' : ¬ w5.heap.size = w.heap.size + 1 + 1 := (by omega); (try have t5 : w3.heap.size < w5.heap.size := (by omega)); (try have u5 : w4.heap.size < w5.heap.size := (by omega)); have y5 : w1.heap.size ≤ w5.heap.size := (by omega); have B5 : Below w1.heap.size w1 w5 := (by first | exact (B4).trans (hb5.mono (by first | omega | (simp; omega))) | exact ((B4).alloc (by first | omega | (simp; omega)) _).trans (hb5.mono (by first | omega | (simp; omega))) | exact ((hb2.alloc (by first | omega | (simp; omega)) _).drew).trans (hb5.mono (by first | omega | (simp; omega))))) | (go_at_call 128; refine (R.out _).mono ?_; rintro e w6 ⟨rfl, hb6⟩; obtain ⟨c6, f6⟩ := bcell hb6; have s6 := hb6.size; (try simp at s6); obtain ⟨x6, p0, p1, p2, p3⟩ := step3 hb6 (h := w.heap.size) (by first | omega | (simp; omega)); have y6 : w1.heap.size ≤ w6.heap.size := (by omega); have B6 : Below w1.heap.size w1 w6 := (by first | exact (B5).trans (hb6.mono (by first | omega | (simp; omega))) | exact ((B5).alloc (by first | omega | (simp; omega)) _).trans (hb6.mono (by first | omega | (simp; omega))) | exact ((hb2.alloc (by first | omega | (simp; omega)) _).drew).trans (hb6.mono (by first | omega | (simp; omega))))))
  all_goals
    go_wp2
    have v0 := (B6.cell (p := ⟨w.heap.size + 1 + 1, 0, none⟩) z).trans a6
    have v1 := (B6.cell (p := ⟨w.heap.size + 1 + 1, 1, none⟩) z).trans a7
    have v2 := (B6.cell (p := ⟨w.heap.size + 1 + 1, 2, none⟩) z).trans a8
    obtain ⟨g0, g1, g2⟩ := three_set2 v0 v1 v2 (.int .u8 0) (.int .u64 0) (.string ⟨#[]⟩)
    have B7 : Below w.heap.size w w6 := HB.trans (B6.mono (by omega))
    refine bodyPost_ret (v := .tuple #[V 0 0 E0, .int .i64 f]) (by simp [results, Tryz.results86, go_sem, v0, v1, v2, g0, g1, g2, d4'', d5'', e3, World.cell?_setCell_far, World.cell?_alloc_some]) rfl ⟨rfl, ?_⟩
    go_grown
end
end Go.Proofs.YtpaibmganlaaeaaGreatDoor
