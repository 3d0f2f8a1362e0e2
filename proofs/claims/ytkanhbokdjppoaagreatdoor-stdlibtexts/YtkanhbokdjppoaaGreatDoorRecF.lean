/- What arithmetic of two floats comes to, in the value package and in the document; no statement of the seat is proved here. -/
import Derived.Test.YtkanhbokdjppoaaGreatDoorCmpA
import Derived.Laws.FloatArith
namespace Go.Proofs.YtkanhbokdjppoaaGreatDoor
set_option linter.unusedVariables false
open Go.RowKit
/-- The bits of the NaN that an invalid operation gives: the language fixes none. -/
def nanOf (x y : Nat) (w : World) : Nat := Question.cut (.nanBits .f64 x y) (w.tape w.drawn (.nanBits .f64 x y))
theorem nanOf_nan (x y : Nat) (w : World) : fnan (nanOf x y w) = true := by
  unfold nanOf fnan
  generalize w.tape w.drawn (.nanBits .f64 x y) = t
  have e : Question.cut (.nanBits .f64 x y) t = (t % 2) * 9223372036854775808 + 9218868437227405312 + 1 + (t / 2) % 4503599627370495 := rfl
  rw [e, decide_eq_true_eq]
  have hu : t / 2 % 4503599627370495 < 4503599627370495 := Nat.mod_lt _ (by omega)
  generalize t / 2 % 4503599627370495 = u at *
  have h2 : t % 2 = 0 ∨ t % 2 = 1 := by omega
  rcases h2 with h2 | h2 <;> rw [h2] <;> omega
theorem run_nan {P : Program} (op : BinOp) (o : op = .add ∨ op = .sub ∨ op = .mul ∨ op = .quo) (t : TypeId) (x y : Nat) (h : floatBits op .f64 x y = none) (w : World) :
    (binOp op t (.float .f64 x) (.float .f64 y)).run P w = .ok (.float .f64 (nanOf x y w)) w.drew := by
  unfold floatBits at h
  rcases o with rfl | rfl | rfl | rfl
  all_goals
    simp only at h
    simp [binOp, Op.floatArith, h, Question.forced, nanOf]
/-- Which operation on floats a number means. -/
def flOp (op : Int) : BinOp := if op = 1 then .add else if op = 2 then .sub else if op = 3 then .mul else .quo
/-- The bits of the LREAL that an operation on two floats gives. -/
def flB (op : Int) (x y : Nat) : Int := match floatBits (flOp op) .f64 x y with | some r => lrealB r | none => 9221120237041090561
theorem flB_s {op : Int} {x y r : Nat} (h : floatBits (flOp op) .f64 x y = some r) : flB op x y = lrealB r := by unfold flB; rw [h]
theorem flB_n {op : Int} {x y : Nat} (h : floatBits (flOp op) .f64 x y = none) : flB op x y = 9221120237041090561 := by unfold flB; rw [h]
theorem bx1 {w w1 : World} {x : Obj} (hb : Below (w.alloc x).heap.size (w.alloc x) w1) : Below w.heap.size w w1 ∧ (∀ o, w1.cell? ⟨w.heap.size, o, none⟩ = (w.alloc x).cell? ⟨w.heap.size, o, none⟩) ∧ (∀ o, w1.frozen? ⟨w.heap.size, o, none⟩ = (w.alloc x).frozen? ⟨w.heap.size, o, none⟩) :=
  ⟨((Below.refl _ _).alloc (Nat.le_refl _) _).trans (hb.mono (by simp)), fun o => hb.cell (p := ⟨w.heap.size, o, none⟩) (by simp), fun o => hb.frozen (p := ⟨w.heap.size, o, none⟩) (by simp)⟩
theorem bx1d {w w1 : World} {x : Obj} (hb : Below (w.alloc x).drew.heap.size (w.alloc x).drew w1) : Below w.heap.size w w1 ∧ (∀ o, w1.cell? ⟨w.heap.size, o, none⟩ = (w.alloc x).cell? ⟨w.heap.size, o, none⟩) ∧ (∀ o, w1.frozen? ⟨w.heap.size, o, none⟩ = (w.alloc x).frozen? ⟨w.heap.size, o, none⟩) :=
  ⟨((Below.refl _ _).alloc (Nat.le_refl _) _).drew.trans (hb.mono (by simp)), fun o => hb.cell (p := ⟨w.heap.size, o, none⟩) (by simp), fun o => hb.frozen (p := ⟨w.heap.size, o, none⟩) (by simp)⟩
theorem LrealR_s (n : Nat) (w : World) : Calls Tryz.prog 196 #[.float .f64 n] w fun e w' => e = .returned (V 18 (lrealB n) E0) ∧ Below w.heap.size w w' := by
  have hx := call_bits
  cases h : fnan n
  · have g : (FloatKind.f64.format.order n n != some .eq) = false := by rw [order_self_ne, h]
    rw [lrealB_f h]
    clear h
    go_enter Tryz.func196, Tryz.ntmps196
    go_wp2
    exact bodyPost_ret (v := V 18 n E0) (by simp [results, Tryz.results196, go_sem]) rfl ⟨rfl, (Below.refl _ _).alloc (Nat.le_refl _) _⟩
  · have g : (FloatKind.f64.format.order n n != some .eq) = true := by rw [order_self_ne, h]
    rw [lrealB_t h]
    clear h
    go_enter Tryz.func196, Tryz.ntmps196
    go_wp2
    exact bodyPost_ret (v := V 18 9221120237041090561 E0) (by simp [results, Tryz.results196, go_sem]) rfl ⟨rfl, (Below.refl _ _).alloc (Nat.le_refl _) _⟩
section
variable (x y : Nat) (w : World)
set_option maxHeartbeats 1000000 in
theorem rf1_s {r : Nat} (h : floatBits .add .f64 x y = some r) :
    Calls Tryz.prog 142 #[.int .i64 1, .float .f64 x, .float .f64 y] w fun e w' => e = .returned (.tuple #[V 18 (lrealB r) E0, .int .i64 0]) ∧ Below w.heap.size w w' := by
  have hr := fun w => run_float_arith (P := Tryz.prog) w .add 95 .f64 x y r h
  clear h
  go_enter Tryz.func142, Tryz.ntmps142
  go_wp2_with (go_at_call 109; refine (Lreal_of _ _).mono ?_; rintro e w1 ⟨rfl, hb⟩; obtain ⟨B, hc, hf⟩ := bx1 hb)
  exact bodyPost_ret (v := .tuple #[V 18 (lrealB r) E0, .int .i64 0]) (by simp [results, Tryz.results142, go_sem, hc]) rfl ⟨rfl, ((B.setCell (by simp) _).setCell (by simp) _).setCell (by simp) _⟩
set_option maxHeartbeats 1000000 in
theorem rf1_n (h : floatBits .add .f64 x y = none) :
    Calls Tryz.prog 142 #[.int .i64 1, .float .f64 x, .float .f64 y] w fun e w' => e = .returned (.tuple #[V 18 (9221120237041090561) E0, .int .i64 0]) ∧ Below w.heap.size w w' := by
  have hr := fun w => run_nan (P := Tryz.prog) .add (by simp) 95 x y h w
  clear h
  go_enter Tryz.func142, Tryz.ntmps142
  go_wp2_with (go_at_call 109; refine (Lreal_of _ _).mono ?_; rw [lrealB_t (nanOf_nan _ _ _)]; rintro e w1 ⟨rfl, hb⟩; obtain ⟨B, hc, hf⟩ := bx1d hb)
  exact bodyPost_ret (v := .tuple #[V 18 (9221120237041090561) E0, .int .i64 0]) (by simp [results, Tryz.results142, go_sem, hc]) rfl ⟨rfl, ((B.setCell (by simp) _).setCell (by simp) _).setCell (by simp) _⟩
set_option maxHeartbeats 1000000 in
theorem rf2_s {r : Nat} (h : floatBits .sub .f64 x y = some r) :
    Calls Tryz.prog 142 #[.int .i64 2, .float .f64 x, .float .f64 y] w fun e w' => e = .returned (.tuple #[V 18 (lrealB r) E0, .int .i64 0]) ∧ Below w.heap.size w w' := by
  have hr := fun w => run_float_arith (P := Tryz.prog) w .sub 95 .f64 x y r h
  clear h
  go_enter Tryz.func142, Tryz.ntmps142
  go_wp2_with (go_at_call 109; refine (Lreal_of _ _).mono ?_; rintro e w1 ⟨rfl, hb⟩; obtain ⟨B, hc, hf⟩ := bx1 hb)
  exact bodyPost_ret (v := .tuple #[V 18 (lrealB r) E0, .int .i64 0]) (by simp [results, Tryz.results142, go_sem, hc]) rfl ⟨rfl, ((B.setCell (by simp) _).setCell (by simp) _).setCell (by simp) _⟩
set_option maxHeartbeats 1000000 in
theorem rf2_n (h : floatBits .sub .f64 x y = none) :
    Calls Tryz.prog 142 #[.int .i64 2, .float .f64 x, .float .f64 y] w fun e w' => e = .returned (.tuple #[V 18 (9221120237041090561) E0, .int .i64 0]) ∧ Below w.heap.size w w' := by
  have hr := fun w => run_nan (P := Tryz.prog) .sub (by simp) 95 x y h w
  clear h
  go_enter Tryz.func142, Tryz.ntmps142
  go_wp2_with (go_at_call 109; refine (Lreal_of _ _).mono ?_; rw [lrealB_t (nanOf_nan _ _ _)]; rintro e w1 ⟨rfl, hb⟩; obtain ⟨B, hc, hf⟩ := bx1d hb)
  exact bodyPost_ret (v := .tuple #[V 18 (9221120237041090561) E0, .int .i64 0]) (by simp [results, Tryz.results142, go_sem, hc]) rfl ⟨rfl, ((B.setCell (by simp) _).setCell (by simp) _).setCell (by simp) _⟩
set_option maxHeartbeats 1000000 in
theorem rf3_s {r : Nat} (h : floatBits .mul .f64 x y = some r) :
    Calls Tryz.prog 142 #[.int .i64 3, .float .f64 x, .float .f64 y] w fun e w' => e = .returned (.tuple #[V 18 (lrealB r) E0, .int .i64 0]) ∧ Below w.heap.size w w' := by
  have hr := fun w => run_float_arith (P := Tryz.prog) w .mul 95 .f64 x y r h
  clear h
  go_enter Tryz.func142, Tryz.ntmps142
  go_wp2_with (go_at_call 109; refine (Lreal_of _ _).mono ?_; rintro e w1 ⟨rfl, hb⟩; obtain ⟨B, hc, hf⟩ := bx1 hb)
  exact bodyPost_ret (v := .tuple #[V 18 (lrealB r) E0, .int .i64 0]) (by simp [results, Tryz.results142, go_sem, hc]) rfl ⟨rfl, ((B.setCell (by simp) _).setCell (by simp) _).setCell (by simp) _⟩
set_option maxHeartbeats 1000000 in
theorem rf3_n (h : floatBits .mul .f64 x y = none) :
    Calls Tryz.prog 142 #[.int .i64 3, .float .f64 x, .float .f64 y] w fun e w' => e = .returned (.tuple #[V 18 (9221120237041090561) E0, .int .i64 0]) ∧ Below w.heap.size w w' := by
  have hr := fun w => run_nan (P := Tryz.prog) .mul (by simp) 95 x y h w
  clear h
  go_enter Tryz.func142, Tryz.ntmps142
  go_wp2_with (go_at_call 109; refine (Lreal_of _ _).mono ?_; rw [lrealB_t (nanOf_nan _ _ _)]; rintro e w1 ⟨rfl, hb⟩; obtain ⟨B, hc, hf⟩ := bx1d hb)
  exact bodyPost_ret (v := .tuple #[V 18 (9221120237041090561) E0, .int .i64 0]) (by simp [results, Tryz.results142, go_sem, hc]) rfl ⟨rfl, ((B.setCell (by simp) _).setCell (by simp) _).setCell (by simp) _⟩
set_option maxHeartbeats 1000000 in
theorem rf4_s {r : Nat} (h : floatBits .quo .f64 x y = some r) :
    Calls Tryz.prog 142 #[.int .i64 4, .float .f64 x, .float .f64 y] w fun e w' => e = .returned (.tuple #[V 18 (lrealB r) E0, .int .i64 0]) ∧ Below w.heap.size w w' := by
  have hr := fun w => run_float_arith (P := Tryz.prog) w .quo 95 .f64 x y r h
  clear h
  go_enter Tryz.func142, Tryz.ntmps142
  go_wp2_with (go_at_call 109; refine (Lreal_of _ _).mono ?_; rintro e w1 ⟨rfl, hb⟩; obtain ⟨B, hc, hf⟩ := bx1 hb)
  exact bodyPost_ret (v := .tuple #[V 18 (lrealB r) E0, .int .i64 0]) (by simp [results, Tryz.results142, go_sem, hc]) rfl ⟨rfl, ((B.setCell (by simp) _).setCell (by simp) _).setCell (by simp) _⟩
set_option maxHeartbeats 1000000 in
theorem rf4_n (h : floatBits .quo .f64 x y = none) :
    Calls Tryz.prog 142 #[.int .i64 4, .float .f64 x, .float .f64 y] w fun e w' => e = .returned (.tuple #[V 18 (9221120237041090561) E0, .int .i64 0]) ∧ Below w.heap.size w w' := by
  have hr := fun w => run_nan (P := Tryz.prog) .quo (by simp) 95 x y h w
  clear h
  go_enter Tryz.func142, Tryz.ntmps142
  go_wp2_with (go_at_call 109; refine (Lreal_of _ _).mono ?_; rw [lrealB_t (nanOf_nan _ _ _)]; rintro e w1 ⟨rfl, hb⟩; obtain ⟨B, hc, hf⟩ := bx1d hb)
  exact bodyPost_ret (v := .tuple #[V 18 (9221120237041090561) E0, .int .i64 0]) (by simp [results, Tryz.results142, go_sem, hc]) rfl ⟨rfl, ((B.setCell (by simp) _).setCell (by simp) _).setCell (by simp) _⟩
end
set_option maxHeartbeats 1000000 in
theorem rf_no (op : Int) (x y : Nat) (w : World) (o1 : ¬ op = 1) (o2 : ¬ op = 2) (o3 : ¬ op = 3) (o4 : ¬ op = 4) :
    Calls Tryz.prog 142 #[.int .i64 op, .float .f64 x, .float .f64 y] w fun e w' => e = .returned (.tuple #[V 0 0 E0, .int .i64 8]) ∧ Below w.heap.size w w' := by
  have p1 : (op == 1) = false := by simpa using o1
  have p2 : (op == 2) = false := by simpa using o2
  have p3 : (op == 3) = false := by simpa using o3
  have p4 : (op == 4) = false := by simpa using o4
  go_enter Tryz.func142, Tryz.ntmps142
  go_wp2
  refine bodyPost_ret (v := .tuple #[V 0 0 E0, .int .i64 8]) (by simp [results, Tryz.results142, go_sem]) rfl ⟨rfl, ?_⟩
  go_grown
theorem rf_yes (op : Int) (x y : Nat) (w : World) (o : 1 ≤ op ∧ op ≤ 4) :
    Calls Tryz.prog 142 #[.int .i64 op, .float .f64 x, .float .f64 y] w fun e w' => e = .returned (.tuple #[V 18 (flB op x y) E0, .int .i64 0]) ∧ Below w.heap.size w w' := by
  have : op = 1 ∨ op = 2 ∨ op = 3 ∨ op = 4 := by omega
  rcases this with rfl | rfl | rfl | rfl
  · cases h : floatBits (flOp 1) .f64 x y
    · rw [flB_n h]; exact rf1_n x y w h
    · rw [flB_s h]; exact rf1_s x y w h
  · cases h : floatBits (flOp 2) .f64 x y
    · rw [flB_n h]; exact rf2_n x y w h
    · rw [flB_s h]; exact rf2_s x y w h
  · cases h : floatBits (flOp 3) .f64 x y
    · rw [flB_n h]; exact rf3_n x y w h
    · rw [flB_s h]; exact rf3_s x y w h
  · cases h : floatBits (flOp 4) .f64 x y
    · rw [flB_n h]; exact rf4_n x y w h
    · rw [flB_s h]; exact rf4_s x y w h
end Go.Proofs.YtkanhbokdjppoaaGreatDoor
