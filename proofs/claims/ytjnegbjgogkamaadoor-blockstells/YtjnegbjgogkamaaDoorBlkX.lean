/- What Step answers for each block, where it takes the cells; no statement of the seat is proved here. -/
import Derived.Test.YtjnegbjgogkamaaDoorBlkW
import Derived.Test.YtjnegbjgogkamaaDoorBlkC
import Derived.Test.YtjnegbjgogkamaaDoorBlkD
import Derived.Test.YtjnegbjgogkamaaDoorBlkF
import Derived.Test.YtjnegbjgogkamaaDoorBlkG
import Derived.Test.YtjnegbjgogkamaaDoorBlkH
namespace Go.Proofs.YtjnegbjgogkamaaDoor
set_option linter.unusedVariables false
open Go.RowKit
/-- A value's number. -/
def vN (v : Nat → Vl) (i : Nat) : Int := nmV (v i).k (v i).b
theorem rng1 {k b : Int} {s : ByteArray} (h : k = 1) (h0 : 0 ≤ b) (m : may3 k b s = true) : B01 (nmV k b) := by
  subst h
  have : b ≤ 1 := by unfold may3 at m; simp [mayW] at m; omega
  unfold nmV; rw [if_pos rfl]
  have : b = 0 ∨ b = 1 := by omega
  exact this
theorem rng3 {k b : Int} {s : ByteArray} (h : k = 3) (h0 : 0 ≤ b) (h1 : b < 18446744073709551616) (m : may3 k b s = true) : -32768 ≤ nmV k b ∧ nmV k b ≤ 32767 := by
  subst h
  have : sg 32768 b = true := by unfold may3 at m; simp [mayW] at m; exact m.2
  unfold sg at this
  have := of_decide_eq_true this
  unfold nmV; rw [if_neg (by decide)]
  unfold wrap64; omega
theorem rng14 {k b : Int} (h : k = 14) : -9223372036854775808 ≤ nmV k b ∧ nmV k b < 9223372036854775808 := by
  subst h; unfold nmV; rw [if_neg (by decide)]
  have := wrap64_bd b; omega
theorem fit1 {x : Int} (h : B01 x) : fitOk 1 x = true := by rcases h with rfl | rfl <;> simp [fitOk, may3, mayW, num]
theorem fit3 {x : Int} (h : -32768 ≤ x ∧ x ≤ 32767) : fitOk 3 x = true := by
  unfold fitOk
  rw [Bool.and_eq_true]
  refine ⟨?_, decide_eq_true ?_⟩
  · unfold may3 mayW sg; simp; omega
  · rw [num_s (by omega)]; unfold wrap64; omega
theorem fit14 {x : Int} (h : -9223372036854775808 ≤ x ∧ x < 9223372036854775808) : fitOk 14 x = true := by
  unfold fitOk
  rw [Bool.and_eq_true]
  refine ⟨?_, decide_eq_true ?_⟩
  · unfold may3 mayW; simp
  · rw [num_s (by omega)]; unfold wrap64; omega
theorem tN_01 (p : Bool) : B01 (tN p) := by cases p <;> simp [tN, B01]
theorem vU_r {cu r cv m : Int} (h : -32768 ≤ cv ∧ cv ≤ 32767) : -32768 ≤ vU cu r cv m ∧ vU cu r cv m ≤ 32767 := by unfold vU cUp; split <;> (try split) <;> (try split) <;> omega
theorem vD_r {cd ld pv cv m : Int} (h : -32768 ≤ cv ∧ cv ≤ 32767) (g : -32768 ≤ pv ∧ pv ≤ 32767) : -32768 ≤ vD cd ld pv cv m ∧ vD cd ld pv cv m ≤ 32767 := by unfold vD cDn; split <;> (try split) <;> (try split) <;> omega
theorem vB_r {cu cd r ld pv cv m n : Int} (h : -32768 ≤ cv ∧ cv ≤ 32767) (g : -32768 ≤ pv ∧ pv ≤ 32767) : -32768 ≤ vB cu cd r ld pv cv m n ∧ vB cu cd r ld pv cv m n ≤ 32767 := by unfold vB cUp cDn; split <;> (try split) <;> (try split) <;> (try split) <;> (try split) <;> omega
theorem sinc_r {now s : Int} (h : 0 ≤ now ∧ now ≤ 4611686018427387904) : 0 ≤ sinc now s ∧ sinc now s ≤ 4611686018427387904 := by unfold sinc; split <;> omega
theorem els_r {now s pt : Int} (h : 0 ≤ now ∧ now ≤ 4611686018427387904) : 0 ≤ els now s pt ∧ els now s pt ≤ 4611686018427387904 := by
  have := sinc_r (s := s) h
  have : 0 ≤ spn pt := by unfold spn; split <;> omega
  unfold els; split <;> omega
theorem pQ_01 {now pt q s : Int} (h : B01 q) : B01 (pQ now pt q s) := by
  unfold pQ; split
  · exact tN_01 _
  · exact h
/-- The numbers that a block's variables of such kinds can have. -/
def okN (k x : Int) : Prop := (k = 1 → B01 x) ∧ (k = 3 → -32768 ≤ x ∧ x ≤ 32767) ∧ (k = 14 → -9223372036854775808 ≤ x ∧ x < 9223372036854775808)
theorem okN1 {x : Int} (h : B01 x) : okN 1 x := ⟨fun _ => h, fun e => by omega, fun e => by omega⟩
theorem okN3 {x : Int} (h : -32768 ≤ x ∧ x ≤ 32767) : okN 3 x := ⟨fun e => by omega, fun _ => h, fun e => by omega⟩
theorem okN14 {x : Int} (h : -9223372036854775808 ≤ x ∧ x < 9223372036854775808) : okN 14 x := ⟨fun e => by omega, fun e => by omega, fun _ => h⟩
theorem okN_fit {k x : Int} (hk : K3 k) (h : okN k x) : fitOk k x = true := by
  rcases hk with rfl | rfl | rfl
  · exact fit1 (h.1 rfl)
  · exact fit3 (h.2.1 rfl)
  · exact fit14 (h.2.2 rfl)
theorem okN_of {ks : ByteArray} {v : Nat → Vl} {n : Nat} (ht : tkB ks v n = true) (ho : ∀ i, i < n → VlOk (v i)) (i : Nat) (hi : i < n) : okN (kAt ks i) (vN v i) := by
  have g := ht
  unfold tkB at g
  obtain ⟨a, b⟩ := of_decide_eq_true g i hi
  have o := ho i hi
  rw [← a]
  exact ⟨fun e => rng1 e o.b0 b, fun e => rng3 e o.b0 o.b1 b, fun e => rng14 e⟩
/-- A list of numbers, each as a kind has it. -/
def okL (ks : ByteArray) (l : List Int) : Prop := l.length = ks.size ∧ ∀ i, i < ks.size → okN (kAt ks i) (l.getD i 0)
theorem forall3 {p : Nat → Prop} (h0 : p 0) (h1 : p 1) (h2 : p 2) : ∀ i, i < 3 → p i := by
  intro i hi
  match i, hi with
  | 0, _ => exact h0
  | 1, _ => exact h1
  | 2, _ => exact h2
theorem forall6 {p : Nat → Prop} (h0 : p 0) (h1 : p 1) (h2 : p 2) (h3 : p 3) (h4 : p 4) (h5 : p 5) : ∀ i, i < 6 → p i := by
  intro i hi
  match i, hi with
  | 0, _ => exact h0
  | 1, _ => exact h1
  | 2, _ => exact h2
  | 3, _ => exact h3
  | 4, _ => exact h4
  | 5, _ => exact h5
theorem forall10 {p : Nat → Prop} (h0 : p 0) (h1 : p 1) (h2 : p 2) (h3 : p 3) (h4 : p 4) (h5 : p 5) (h6 : p 6) (h7 : p 7) (h8 : p 8) (h9 : p 9) : ∀ i, i < 10 → p i := by
  intro i hi
  match i, hi with
  | 0, _ => exact h0
  | 1, _ => exact h1
  | 2, _ => exact h2
  | 3, _ => exact h3
  | 4, _ => exact h4
  | 5, _ => exact h5
  | 6, _ => exact h6
  | 7, _ => exact h7
  | 8, _ => exact h8
  | 9, _ => exact h9
/-- The letters of a block's kinds. -/
def ks3 : ByteArray := ⟨#[66, 66, 66]⟩
def ksC : ByteArray := ⟨#[66, 66, 73, 66, 73, 66]⟩
def ksB : ByteArray := ⟨#[66, 66, 66, 66, 73, 66, 66, 73, 66, 66]⟩
def ksT : ByteArray := ⟨#[66, 84, 66, 84, 66, 84]⟩
theorem okL3 (K now a b c : Int) (ha : B01 a) (hb : B01 b) : okL ks3 (nxt K now [a, b, c]) := by
  by_cases h1 : K = 1
  · subst h1; exact ⟨rfl, forall3 (okN1 ha) (okN1 hb) (okN1 (tN_01 _))⟩
  by_cases h2 : K = 2
  · subst h2; exact ⟨rfl, forall3 (okN1 ha) (okN1 hb) (okN1 (tN_01 _))⟩
  by_cases h3 : K = 3
  · subst h3; exact ⟨rfl, forall3 (okN1 ha) (okN1 (tN_01 _)) (okN1 ha)⟩
  have e : nxt K now [a, b, c] = [a, tN (decide (c = 1 ∧ a = 0)), a] := by simp only [nxt]; rw [if_neg h1, if_neg h2, if_neg h3]
  rw [e]
  exact ⟨rfl, forall3 (okN1 ha) (okN1 (tN_01 _)) (okN1 ha)⟩
theorem okL5 (now a b c d e f : Int) (ha : B01 a) (hb : B01 b) (hc : -32768 ≤ c ∧ c ≤ 32767) (he : -32768 ≤ e ∧ e ≤ 32767) : okL ksC (nxt 5 now [a, b, c, d, e, f]) :=
  ⟨rfl, forall6 (okN1 ha) (okN1 hb) (okN3 hc) (okN1 (tN_01 _)) (okN3 (vU_r he)) (okN1 ha)⟩
theorem okL6 (now a b c d e f : Int) (ha : B01 a) (hb : B01 b) (hc : -32768 ≤ c ∧ c ≤ 32767) (he : -32768 ≤ e ∧ e ≤ 32767) : okL ksC (nxt 6 now [a, b, c, d, e, f]) :=
  ⟨rfl, forall6 (okN1 ha) (okN1 hb) (okN3 hc) (okN1 (tN_01 _)) (okN3 (vD_r he hc)) (okN1 ha)⟩
theorem okL7 (now cu cd r ld pv qu qd cv m n : Int) (h0 : B01 cu) (h1 : B01 cd) (h2 : B01 r) (h3 : B01 ld) (h4 : -32768 ≤ pv ∧ pv ≤ 32767) (h7 : -32768 ≤ cv ∧ cv ≤ 32767) : okL ksB (nxt 7 now [cu, cd, r, ld, pv, qu, qd, cv, m, n]) :=
  ⟨rfl, forall10 (okN1 h0) (okN1 h1) (okN1 h2) (okN1 h3) (okN3 h4) (okN1 (tN_01 _)) (okN1 (tN_01 _)) (okN3 (vB_r h7 h4)) (okN1 h0) (okN1 h1)⟩
/-- Six numbers of a timer. -/
theorem okT {a b c d e f : Int} (ha : B01 a) (hb : -9223372036854775808 ≤ b ∧ b < 9223372036854775808) (hc : B01 c) (hd : -9223372036854775808 ≤ d ∧ d < 9223372036854775808) (he : B01 e) (hf : -9223372036854775808 ≤ f ∧ f < 9223372036854775808) : okL ksT [a, b, c, d, e, f] :=
  ⟨rfl, forall6 (okN1 ha) (okN14 hb) (okN1 hc) (okN14 hd) (okN1 he) (okN14 hf)⟩
theorem okLT (K now a b c d e f : Int) (hK : K = 8 ∨ K = 9 ∨ K = 10) (hn : 0 ≤ now ∧ now ≤ 4611686018427387904) (ha : B01 a) (hb : -9223372036854775808 ≤ b ∧ b < 9223372036854775808) (hc : B01 c) (hd : -9223372036854775808 ≤ d ∧ d < 9223372036854775808) (he : B01 e) (hf : -9223372036854775808 ≤ f ∧ f < 9223372036854775808) : okL ksT (nxt K now [a, b, c, d, e, f]) := by
  have z : -9223372036854775808 ≤ (0 : Int) ∧ (0 : Int) < 9223372036854775808 := by omega
  have w : -9223372036854775808 ≤ now ∧ now < 9223372036854775808 := by omega
  have l : ∀ s, -9223372036854775808 ≤ els now s b ∧ els now s b < 9223372036854775808 := fun s => by have := els_r (now := now) (s := s) (pt := b) hn; omega
  have q : B01 (pQ now b c f) := pQ_01 hc
  have p : -9223372036854775808 ≤ pE now b c d f ∧ pE now b c d f < 9223372036854775808 := by
    unfold pE; split
    · exact l f
    · exact hd
  rcases hK with rfl | rfl | rfl
  · have e8 : nxt 8 now [a, b, c, d, e, f] = (if pQ now b c f = 0 ∧ a = 1 ∧ e = 0 then [a, b, tN (decide (0 < b)), 0, a, now]
       else if pQ now b c f = 0 ∧ a = 0 then [a, b, pQ now b c f, 0, a, f] else [a, b, pQ now b c f, pE now b c d f, a, f]) := rfl
    rw [e8]
    split
    · exact okT ha hb (tN_01 _) z ha w
    split
    · exact okT ha hb q z ha hf
    · exact okT ha hb q p ha hf
  · have e9 : nxt 9 now [a, b, c, d, e, f] = (if a = 0 then [a, b, 0, 0, a, f] else if e = 0 then [a, b, tN (decide (spn b ≤ sinc now now)), els now now b, a, now] else [a, b, tN (decide (spn b ≤ sinc now f)), els now f b, a, f]) := rfl
    rw [e9]
    split
    · exact okT ha hb (.inl rfl) z ha hf
    split
    · exact okT ha hb (tN_01 _) (l now) ha w
    · exact okT ha hb (tN_01 _) (l f) ha hf
  · have e10 : nxt 10 now [a, b, c, d, e, f] = (if a = 1 then [a, b, 1, 0, a, f]
       else if e = 1 then (if c = 1 then [a, b, tN (!decide (spn b ≤ sinc now now)), els now now b, a, now] else [a, b, c, d, a, now])
       else (if c = 1 then [a, b, tN (!decide (spn b ≤ sinc now f)), els now f b, a, f] else [a, b, c, d, a, f])) := rfl
    rw [e10]
    split
    · exact okT ha hb (.inr rfl) z ha hf
    split
    · split
      · exact okT ha hb (tN_01 _) (l now) ha w
      · exact okT ha hb hc hd ha w
    · split
      · exact okT ha hb (tN_01 _) (l f) ha hf
      · exact okT ha hb hc hd ha hf
section
variable (a : Addr) (cap : Nat) (v : Nat → Vl) (now : Int) (w : World)
theorem Step_1 (hv : VsAt w a 3 v) (ho : ∀ i, i < 3 → VlOk (v i)) (ht : tkB ks3 v 3 = true) :
    Calls Tryd.prog 18 #[.int .i64 1, .slice (some a) 3 cap, .int .i64 now] w fun e w' => ∃ g, e = .returned (.tuple #[NS g 3, .int .i64 0]) ∧ w.heap.size ≤ g ∧ Row3 w' g 3 (vlL ks3 (nxt 1 (clN now) (nmL 3 v))) ∧ Below w.heap.size w w' := by
  have P : ∀ i, i < 3 → okN (kAt ks3 i) (vN v i) := okN_of ht ho
  have e : nmL 3 v = [vN v 0, vN v 1, vN v 2] := rfl
  refine Step_yes 1 ⟨#[83, 82]⟩ ⟨#[83, 49, 32, 82, 32, 81, 49]⟩ ks3 2 1 40 a 3 cap v now w numbered_1 hv ho rfl (by decide) ht ?_ (fun args w => by kernel_rfl) ?_
  · intro z g w hz h
    rw [e] at h ⊢
    exact setFirst_of z _ _ _ g w ((P 0 (by decide)).1 rfl) ((P 1 (by decide)).1 rfl) ((P 2 (by decide)).1 rfl) h
  · intro z hz
    rw [e]
    have O : okL ks3 (nxt 1 z [vN v 0, vN v 1, vN v 2]) := okL3 1 z _ _ _ ((P 0 (by decide)).1 rfl) ((P 1 (by decide)).1 rfl)
    exact ⟨O.1, fun i hi => okN_fit (kAt_cases _ _) (O.2 i hi)⟩
theorem Step_2 (hv : VsAt w a 3 v) (ho : ∀ i, i < 3 → VlOk (v i)) (ht : tkB ks3 v 3 = true) :
    Calls Tryd.prog 18 #[.int .i64 2, .slice (some a) 3 cap, .int .i64 now] w fun e w' => ∃ g, e = .returned (.tuple #[NS g 3, .int .i64 0]) ∧ w.heap.size ≤ g ∧ Row3 w' g 3 (vlL ks3 (nxt 2 (clN now) (nmL 3 v))) ∧ Below w.heap.size w w' := by
  have P : ∀ i, i < 3 → okN (kAt ks3 i) (vN v i) := okN_of ht ho
  have e : nmL 3 v = [vN v 0, vN v 1, vN v 2] := rfl
  refine Step_yes 2 ⟨#[82, 83]⟩ ⟨#[83, 32, 82, 49, 32, 81, 49]⟩ ks3 2 1 41 a 3 cap v now w numbered_2 hv ho rfl (by decide) ht ?_ (fun args w => by kernel_rfl) ?_
  · intro z g w hz h
    rw [e] at h ⊢
    exact resetFirst_of z _ _ _ g w ((P 0 (by decide)).1 rfl) ((P 1 (by decide)).1 rfl) ((P 2 (by decide)).1 rfl) h
  · intro z hz
    rw [e]
    have O : okL ks3 (nxt 2 z [vN v 0, vN v 1, vN v 2]) := okL3 2 z _ _ _ ((P 0 (by decide)).1 rfl) ((P 1 (by decide)).1 rfl)
    exact ⟨O.1, fun i hi => okN_fit (kAt_cases _ _) (O.2 i hi)⟩
theorem Step_3 (hv : VsAt w a 3 v) (ho : ∀ i, i < 3 → VlOk (v i)) (ht : tkB ks3 v 3 = true) :
    Calls Tryd.prog 18 #[.int .i64 3, .slice (some a) 3 cap, .int .i64 now] w fun e w' => ∃ g, e = .returned (.tuple #[NS g 3, .int .i64 0]) ∧ w.heap.size ≤ g ∧ Row3 w' g 3 (vlL ks3 (nxt 3 (clN now) (nmL 3 v))) ∧ Below w.heap.size w w' := by
  have P : ∀ i, i < 3 → okN (kAt ks3 i) (vN v i) := okN_of ht ho
  have e : nmL 3 v = [vN v 0, vN v 1, vN v 2] := rfl
  refine Step_yes 3 ⟨#[82, 95, 84, 82, 73, 71]⟩ ⟨#[67, 76, 75, 32, 81, 32, 77]⟩ ks3 1 1 42 a 3 cap v now w numbered_3 hv ho rfl (by decide) ht ?_ (fun args w => by kernel_rfl) ?_
  · intro z g w hz h
    rw [e] at h ⊢
    exact rise_of z _ _ _ g w ((P 0 (by decide)).1 rfl) ((P 1 (by decide)).1 rfl) ((P 2 (by decide)).1 rfl) h
  · intro z hz
    rw [e]
    have O : okL ks3 (nxt 3 z [vN v 0, vN v 1, vN v 2]) := okL3 3 z _ _ _ ((P 0 (by decide)).1 rfl) ((P 1 (by decide)).1 rfl)
    exact ⟨O.1, fun i hi => okN_fit (kAt_cases _ _) (O.2 i hi)⟩
theorem Step_4 (hv : VsAt w a 3 v) (ho : ∀ i, i < 3 → VlOk (v i)) (ht : tkB ks3 v 3 = true) :
    Calls Tryd.prog 18 #[.int .i64 4, .slice (some a) 3 cap, .int .i64 now] w fun e w' => ∃ g, e = .returned (.tuple #[NS g 3, .int .i64 0]) ∧ w.heap.size ≤ g ∧ Row3 w' g 3 (vlL ks3 (nxt 4 (clN now) (nmL 3 v))) ∧ Below w.heap.size w w' := by
  have P : ∀ i, i < 3 → okN (kAt ks3 i) (vN v i) := okN_of ht ho
  have e : nmL 3 v = [vN v 0, vN v 1, vN v 2] := rfl
  refine Step_yes 4 ⟨#[70, 95, 84, 82, 73, 71]⟩ ⟨#[67, 76, 75, 32, 81, 32, 77]⟩ ks3 1 1 43 a 3 cap v now w numbered_4 hv ho rfl (by decide) ht ?_ (fun args w => by kernel_rfl) ?_
  · intro z g w hz h
    rw [e] at h ⊢
    exact fall_of z _ _ _ g w ((P 0 (by decide)).1 rfl) ((P 1 (by decide)).1 rfl) ((P 2 (by decide)).1 rfl) h
  · intro z hz
    rw [e]
    have O : okL ks3 (nxt 4 z [vN v 0, vN v 1, vN v 2]) := okL3 4 z _ _ _ ((P 0 (by decide)).1 rfl) ((P 1 (by decide)).1 rfl)
    exact ⟨O.1, fun i hi => okN_fit (kAt_cases _ _) (O.2 i hi)⟩
theorem Step_5 (hv : VsAt w a 6 v) (ho : ∀ i, i < 6 → VlOk (v i)) (ht : tkB ksC v 6 = true) :
    Calls Tryd.prog 18 #[.int .i64 5, .slice (some a) 6 cap, .int .i64 now] w fun e w' => ∃ g, e = .returned (.tuple #[NS g 6, .int .i64 0]) ∧ w.heap.size ≤ g ∧ Row3 w' g 6 (vlL ksC (nxt 5 (clN now) (nmL 6 v))) ∧ Below w.heap.size w w' := by
  have P : ∀ i, i < 6 → okN (kAt ksC i) (vN v i) := okN_of ht ho
  have e : nmL 6 v = [vN v 0, vN v 1, vN v 2, vN v 3, vN v 4, vN v 5] := rfl
  refine Step_yes 5 ⟨#[67, 84, 85]⟩ ⟨#[67, 85, 32, 82, 32, 80, 86, 32, 81, 32, 67, 86, 32, 77]⟩ ksC 3 2 44 a 6 cap v now w numbered_5 hv ho rfl (by decide) ht ?_ (fun args w => by kernel_rfl) ?_
  · intro z g w hz h
    rw [e] at h ⊢
    exact countUp_of z _ _ _ _ _ _ g w ((P 0 (by decide)).1 rfl) ((P 1 (by decide)).1 rfl) ((P 5 (by decide)).1 rfl) ((P 4 (by decide)).2.1 rfl) h
  · intro z hz
    rw [e]
    have O : okL ksC (nxt 5 z [vN v 0, vN v 1, vN v 2, vN v 3, vN v 4, vN v 5]) := okL5 z _ _ _ _ _ _ ((P 0 (by decide)).1 rfl) ((P 1 (by decide)).1 rfl) ((P 2 (by decide)).2.1 rfl) ((P 4 (by decide)).2.1 rfl)
    exact ⟨O.1, fun i hi => okN_fit (kAt_cases _ _) (O.2 i hi)⟩
theorem Step_6 (hv : VsAt w a 6 v) (ho : ∀ i, i < 6 → VlOk (v i)) (ht : tkB ksC v 6 = true) :
    Calls Tryd.prog 18 #[.int .i64 6, .slice (some a) 6 cap, .int .i64 now] w fun e w' => ∃ g, e = .returned (.tuple #[NS g 6, .int .i64 0]) ∧ w.heap.size ≤ g ∧ Row3 w' g 6 (vlL ksC (nxt 6 (clN now) (nmL 6 v))) ∧ Below w.heap.size w w' := by
  have P : ∀ i, i < 6 → okN (kAt ksC i) (vN v i) := okN_of ht ho
  have e : nmL 6 v = [vN v 0, vN v 1, vN v 2, vN v 3, vN v 4, vN v 5] := rfl
  refine Step_yes 6 ⟨#[67, 84, 68]⟩ ⟨#[67, 68, 32, 76, 68, 32, 80, 86, 32, 81, 32, 67, 86, 32, 77]⟩ ksC 3 2 45 a 6 cap v now w numbered_6 hv ho rfl (by decide) ht ?_ (fun args w => by kernel_rfl) ?_
  · intro z g w hz h
    rw [e] at h ⊢
    exact countDown_of z _ _ _ _ _ _ g w ((P 0 (by decide)).1 rfl) ((P 1 (by decide)).1 rfl) ((P 5 (by decide)).1 rfl) ((P 4 (by decide)).2.1 rfl) h
  · intro z hz
    rw [e]
    have O : okL ksC (nxt 6 z [vN v 0, vN v 1, vN v 2, vN v 3, vN v 4, vN v 5]) := okL6 z _ _ _ _ _ _ ((P 0 (by decide)).1 rfl) ((P 1 (by decide)).1 rfl) ((P 2 (by decide)).2.1 rfl) ((P 4 (by decide)).2.1 rfl)
    exact ⟨O.1, fun i hi => okN_fit (kAt_cases _ _) (O.2 i hi)⟩
theorem Step_7 (hv : VsAt w a 10 v) (ho : ∀ i, i < 10 → VlOk (v i)) (ht : tkB ksB v 10 = true) :
    Calls Tryd.prog 18 #[.int .i64 7, .slice (some a) 10 cap, .int .i64 now] w fun e w' => ∃ g, e = .returned (.tuple #[NS g 10, .int .i64 0]) ∧ w.heap.size ≤ g ∧ Row3 w' g 10 (vlL ksB (nxt 7 (clN now) (nmL 10 v))) ∧ Below w.heap.size w w' := by
  have P : ∀ i, i < 10 → okN (kAt ksB i) (vN v i) := okN_of ht ho
  have e : nmL 10 v = [vN v 0, vN v 1, vN v 2, vN v 3, vN v 4, vN v 5, vN v 6, vN v 7, vN v 8, vN v 9] := rfl
  refine Step_yes 7 ⟨#[67, 84, 85, 68]⟩ ⟨#[67, 85, 32, 67, 68, 32, 82, 32, 76, 68, 32, 80, 86, 32, 81, 85, 32, 81, 68, 32, 67, 86, 32, 77, 32, 78]⟩ ksB 5 3 46 a 10 cap v now w numbered_7 hv ho rfl (by decide) ht ?_ (fun args w => by kernel_rfl) ?_
  · intro z g w hz h
    rw [e] at h ⊢
    exact countBoth_of z _ _ _ _ _ _ _ _ _ _ g w ((P 0 (by decide)).1 rfl) ((P 1 (by decide)).1 rfl) ((P 2 (by decide)).1 rfl) ((P 3 (by decide)).1 rfl) ((P 8 (by decide)).1 rfl) ((P 9 (by decide)).1 rfl) ((P 7 (by decide)).2.1 rfl) h
  · intro z hz
    rw [e]
    have O : okL ksB (nxt 7 z [vN v 0, vN v 1, vN v 2, vN v 3, vN v 4, vN v 5, vN v 6, vN v 7, vN v 8, vN v 9]) := okL7 z _ _ _ _ _ _ _ _ _ _ ((P 0 (by decide)).1 rfl) ((P 1 (by decide)).1 rfl) ((P 2 (by decide)).1 rfl) ((P 3 (by decide)).1 rfl) ((P 4 (by decide)).2.1 rfl) ((P 7 (by decide)).2.1 rfl)
    exact ⟨O.1, fun i hi => okN_fit (kAt_cases _ _) (O.2 i hi)⟩
theorem Step_8 (hv : VsAt w a 6 v) (ho : ∀ i, i < 6 → VlOk (v i)) (ht : tkB ksT v 6 = true) :
    Calls Tryd.prog 18 #[.int .i64 8, .slice (some a) 6 cap, .int .i64 now] w fun e w' => ∃ g, e = .returned (.tuple #[NS g 6, .int .i64 0]) ∧ w.heap.size ≤ g ∧ Row3 w' g 6 (vlL ksT (nxt 8 (clN now) (nmL 6 v))) ∧ Below w.heap.size w w' := by
  have P : ∀ i, i < 6 → okN (kAt ksT i) (vN v i) := okN_of ht ho
  have e : nmL 6 v = [vN v 0, vN v 1, vN v 2, vN v 3, vN v 4, vN v 5] := rfl
  refine Step_yes 8 ⟨#[84, 80]⟩ ⟨#[73, 78, 32, 80, 84, 32, 81, 32, 69, 84, 32, 77, 32, 83]⟩ ksT 2 2 47 a 6 cap v now w numbered_8 hv ho rfl (by decide) ht ?_ (fun args w => by kernel_rfl) ?_
  · intro z g w hz h
    rw [e] at h ⊢
    exact pulse_of z _ _ _ _ _ _ g w ((P 0 (by decide)).1 rfl) ((P 2 (by decide)).1 rfl) ((P 4 (by decide)).1 rfl) hz ((P 5 (by decide)).2.2 rfl) ((P 1 (by decide)).2.2 rfl) h
  · intro z hz
    rw [e]
    have O : okL ksT (nxt 8 z [vN v 0, vN v 1, vN v 2, vN v 3, vN v 4, vN v 5]) := okLT 8 z _ _ _ _ _ _ (by decide) hz ((P 0 (by decide)).1 rfl) ((P 1 (by decide)).2.2 rfl) ((P 2 (by decide)).1 rfl) ((P 3 (by decide)).2.2 rfl) ((P 4 (by decide)).1 rfl) ((P 5 (by decide)).2.2 rfl)
    exact ⟨O.1, fun i hi => okN_fit (kAt_cases _ _) (O.2 i hi)⟩
theorem Step_9 (hv : VsAt w a 6 v) (ho : ∀ i, i < 6 → VlOk (v i)) (ht : tkB ksT v 6 = true) :
    Calls Tryd.prog 18 #[.int .i64 9, .slice (some a) 6 cap, .int .i64 now] w fun e w' => ∃ g, e = .returned (.tuple #[NS g 6, .int .i64 0]) ∧ w.heap.size ≤ g ∧ Row3 w' g 6 (vlL ksT (nxt 9 (clN now) (nmL 6 v))) ∧ Below w.heap.size w w' := by
  have P : ∀ i, i < 6 → okN (kAt ksT i) (vN v i) := okN_of ht ho
  have e : nmL 6 v = [vN v 0, vN v 1, vN v 2, vN v 3, vN v 4, vN v 5] := rfl
  refine Step_yes 9 ⟨#[84, 79, 78]⟩ ⟨#[73, 78, 32, 80, 84, 32, 81, 32, 69, 84, 32, 77, 32, 83]⟩ ksT 2 2 48 a 6 cap v now w numbered_9 hv ho rfl (by decide) ht ?_ (fun args w => by kernel_rfl) ?_
  · intro z g w hz h
    rw [e] at h ⊢
    exact onDelay_of z _ _ _ _ _ _ g w ((P 0 (by decide)).1 rfl) ((P 2 (by decide)).1 rfl) ((P 4 (by decide)).1 rfl) hz ((P 5 (by decide)).2.2 rfl) ((P 1 (by decide)).2.2 rfl) h
  · intro z hz
    rw [e]
    have O : okL ksT (nxt 9 z [vN v 0, vN v 1, vN v 2, vN v 3, vN v 4, vN v 5]) := okLT 9 z _ _ _ _ _ _ (by decide) hz ((P 0 (by decide)).1 rfl) ((P 1 (by decide)).2.2 rfl) ((P 2 (by decide)).1 rfl) ((P 3 (by decide)).2.2 rfl) ((P 4 (by decide)).1 rfl) ((P 5 (by decide)).2.2 rfl)
    exact ⟨O.1, fun i hi => okN_fit (kAt_cases _ _) (O.2 i hi)⟩
theorem Step_10 (hv : VsAt w a 6 v) (ho : ∀ i, i < 6 → VlOk (v i)) (ht : tkB ksT v 6 = true) :
    Calls Tryd.prog 18 #[.int .i64 10, .slice (some a) 6 cap, .int .i64 now] w fun e w' => ∃ g, e = .returned (.tuple #[NS g 6, .int .i64 0]) ∧ w.heap.size ≤ g ∧ Row3 w' g 6 (vlL ksT (nxt 10 (clN now) (nmL 6 v))) ∧ Below w.heap.size w w' := by
  have P : ∀ i, i < 6 → okN (kAt ksT i) (vN v i) := okN_of ht ho
  have e : nmL 6 v = [vN v 0, vN v 1, vN v 2, vN v 3, vN v 4, vN v 5] := rfl
  refine Step_yes 10 ⟨#[84, 79, 70]⟩ ⟨#[73, 78, 32, 80, 84, 32, 81, 32, 69, 84, 32, 77, 32, 83]⟩ ksT 2 2 49 a 6 cap v now w numbered_10 hv ho rfl (by decide) ht ?_ (fun args w => by kernel_rfl) ?_
  · intro z g w hz h
    rw [e] at h ⊢
    exact offDelay_of z _ _ _ _ _ _ g w ((P 0 (by decide)).1 rfl) ((P 2 (by decide)).1 rfl) ((P 4 (by decide)).1 rfl) hz ((P 5 (by decide)).2.2 rfl) ((P 1 (by decide)).2.2 rfl) h
  · intro z hz
    rw [e]
    have O : okL ksT (nxt 10 z [vN v 0, vN v 1, vN v 2, vN v 3, vN v 4, vN v 5]) := okLT 10 z _ _ _ _ _ _ (by decide) hz ((P 0 (by decide)).1 rfl) ((P 1 (by decide)).2.2 rfl) ((P 2 (by decide)).1 rfl) ((P 3 (by decide)).2.2 rfl) ((P 4 (by decide)).1 rfl) ((P 5 (by decide)).2.2 rfl)
    exact ⟨O.1, fun i hi => okN_fit (kAt_cases _ _) (O.2 i hi)⟩
end
end Go.Proofs.YtjnegbjgogkamaaDoor
