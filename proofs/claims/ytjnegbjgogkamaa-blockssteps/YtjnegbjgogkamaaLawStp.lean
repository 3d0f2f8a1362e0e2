/- BlocksSteps is proved: for every two numbers and every list of values the statement's function returns true, and the arguments read as they did; no condition. -/
import Derived.Test.YtjnegbjgogkamaaBlkX
import Derived.Test.YtjnegbjgogkamaaBlkY
import Derived.Test.YtjnegbjgogkamaaRfL
import Derived.Deep.QuietTactic
import Derived.Test.YtjnegbjgogkamaaRfM1
import Derived.Test.YtjnegbjgogkamaaRfM2
import Derived.Test.YtjnegbjgogkamaaRfM3
import Derived.Test.YtjnegbjgogkamaaRfM4
import Derived.Test.YtjnegbjgogkamaaRfM5
import Derived.Test.YtjnegbjgogkamaaRfM6
import Derived.Test.YtjnegbjgogkamaaRfM7
import Derived.Test.YtjnegbjgogkamaaRfM8
import Derived.Test.YtjnegbjgogkamaaRfM9
import Derived.Test.YtjnegbjgogkamaaRfM10
import Derived.Test.YtjnegbjgogkamaaMayV
import Derived.ProofKit
import Derived.OpenShut
import Derived.Lib.SmallJoins
import Derived.SizedLaws
import Derived.Deep.Slices
import Derived.Deep.Light
namespace Go.Proofs.Ytjnegbjgogkamaa
set_option linter.unusedVariables false
open Go.RowKit
theorem fn_nilT (w : World) : (binOp .eql 32 .nilFunc .nilFunc).run Try.prog w = .ok (.bool true) w := by kernel_rfl
set_option maxHeartbeats 1000000 in
theorem numbered_bad (K : Int) (w : World) (h : K ≤ 0 ∨ 11 ≤ K) : Calls Try.prog 8 #[.int .i64 K] w fun e w' => e = .returned bk0 ∧ Below w.heap.size w w' := by
  by_cases c : K ≤ 0
  · go_enter Try.func8, Try.ntmps8
    go_wp2_with (refine wpList_store_row rfl 34 _ _ rfl w.heap.size _ rfl rfl _ _ (heap_alloc_last w _) blk_info rfl (by kernel_rfl) ?_)
    exact bodyPost_ret (v := bk0) (results_cell_row Try.results8 _ _ w.heap.size _ _ (0, 0) _ (by first | rfl | simp [Act.put]) (setRow_heap _ _ _ _ _ _ (heap_alloc_last w _)) Try.underlying34 rfl blk_info) rfl ⟨rfl, below_setRow ((Below.refl _ _).alloc (Nat.le_refl _) _) (Nat.le_refl _) _⟩
  · have d : 11 ≤ K := by omega
    go_enter Try.func8, Try.ntmps8
    go_wp2_with (refine wpList_store_row rfl 34 _ _ rfl w.heap.size _ rfl rfl _ _ (heap_alloc_last w _) blk_info rfl (by kernel_rfl) ?_)
    exact bodyPost_ret (v := bk0) (results_cell_row Try.results8 _ _ w.heap.size _ _ (0, 0) _ (by first | rfl | simp [Act.put]) (setRow_heap _ _ _ _ _ _ (heap_alloc_last w _)) Try.underlying34 rfl blk_info) rfl ⟨rfl, below_setRow ((Below.refl _ _).alloc (Nat.le_refl _) _) (Nat.le_refl _) _⟩
set_option maxHeartbeats 1000000 in
theorem Step_bad (K now : Int) (x : Value) (w : World) (h : K ≤ 0 ∨ 11 ≤ K) : Calls Try.prog 5 #[.int .i64 K, x, .int .i64 now] w fun e w' => e = .returned (.tuple #[.slice none 0 0, .int .i64 8]) ∧ Below w.heap.size w w' := by
  have fe := fn_nilT
  have HK : Hid (K ≤ 0 ∨ 11 ≤ K) := h
  clear h
  go_enter Try.func5, Try.ntmps5
  go_wp2_with (first | (go_at_call 8; refine (numbered_bad K _ HK.out).mono ?_; rintro e w1 ⟨rfl, hb⟩; have HB : Hid _ := hb; clear hb) | (refine wpList_store_row rfl 34 _ _ rfl w1.heap.size _ rfl rfl _ _ (heap_alloc_last w1 _) blk_info rfl (by kernel_rfl) ?_; rw [World.setRow_alloc_new]))
  go_ret2
  exact ⟨rfl, HB.out.alloc HB.out.size _⟩
section
variable (K : Int) (nm names ks : ByteArray) (ins outs : Int) (f : Nat) (ad : Option Addr) (n cap : Nat) (now : Int) (w : World)
set_option maxHeartbeats 1000000 in
theorem takes_len (fn : Value) (hn : ¬ n = ks.size) : Calls Try.prog 9 #[BV nm names ks ins outs fn, .slice ad n cap] w fun e w' => e = .returned (.bool false) ∧ Below w.heap.size w w' := by
  have h1 : ((n : Int) != ks.size) = true := by simp; omega
  have h2 : ¬ (n : Int) = ks.size := by omega
  go_enter Try.func9, Try.ntmps9
  go_wp2
  go_ret
  exact ⟨rfl, (Below.refl _ _).alloc (Nat.le_refl _) _⟩
set_option maxHeartbeats 1000000 in
theorem Step_len (hN : ∀ w, Calls Try.prog 8 #[.int .i64 K] w fun e w' => e = .returned (BV nm names ks ins outs (FN f)) ∧ Below w.heap.size w w') (hn : ¬ n = ks.size) :
    Calls Try.prog 5 #[.int .i64 K, .slice ad n cap, .int .i64 now] w fun e w' => e = .returned (.tuple #[.slice none 0 0, .int .i64 8]) ∧ Below w.heap.size w w' := by
  have HN : Hid _ := hN
  have HE : Hid _ := hn
  clear hN hn
  have fe := fn_nil f
  go_enter Try.func5, Try.ntmps5
  go_wp2_with (first | (go_at_call 8; refine (HN.out _).mono ?_; rintro e w1 ⟨rfl, hb⟩; have HB : Hid _ := hb; clear hb) | (refine wpList_store_row rfl 34 _ _ rfl w1.heap.size _ rfl rfl _ _ (heap_alloc_last w1 _) blk_info rfl (by kernel_rfl) ?_; rw [World.setRow_alloc_new]) | (go_at_call 9; refine (takes_len _ _ _ _ _ _ _ _ _ _ HE.out).mono ?_; rintro e w2 ⟨rfl, hb2⟩; have HB2 : Hid _ := hb2; clear hb2))
  go_ret2
  exact ⟨rfl, HB.out.trans ((((Below.refl _ _).alloc (Nat.le_refl _) _).trans (HB2.out.mono (by simp))).mono HB.out.size)⟩
end
set_option maxHeartbeats 4000000 in
theorem VarsR_bad (K : Int) (w : World) (h : K ≤ 0 ∨ 11 ≤ K) : Calls Try.prog 13 #[.int .i64 K] w fun e w' => e = .returned (.slice none 0 0) ∧ w' = w := by
  have k1 : ¬ K = 1 := by omega
  have k2 : ¬ K = 2 := by omega
  have k3 : ¬ K = 3 := by omega
  have k4 : ¬ K = 4 := by omega
  have k5 : ¬ K = 5 := by omega
  have k6 : ¬ K = 6 := by omega
  have k7 : ¬ K = 7 := by omega
  have k8 : ¬ K = 8 := by omega
  have k9 : ¬ K = 9 := by omega
  have k10 : ¬ K = 10 := by omega
  clear h
  go_enter Try.func13, Try.ntmps13
  go_wp2
  go_ret
  exact ⟨rfl, rfl⟩
set_option maxHeartbeats 1000000 in
theorem StepR_bad (K now : Int) (x : Value) (w : World) (h : K ≤ 0 ∨ 11 ≤ K) : Calls Try.prog 6 #[.int .i64 K, x, .int .i64 now] w fun e w' => e = .returned (.tuple #[.slice none 0 0, .int .i64 8]) ∧ Below w.heap.size w w' := by
  have HK : Hid (K ≤ 0 ∨ 11 ≤ K) := h
  clear h
  go_enter Try.func6, Try.ntmps6
  go_wp2_with (go_at_call 13; refine (VarsR_bad K _ HK.out).mono ?_; rintro e w1 ⟨rfl, rfl⟩)
  go_ret2
  exact ⟨rfl, Below.refl _ _⟩
set_option maxHeartbeats 1000000 in
theorem StepR_len (K now : Int) (m : Nat) (ad : Option Addr) (n cap : Nat) (w : World) (hV : ∀ w, Calls Try.prog 13 #[.int .i64 K] w fun e w' => ∃ g c, e = .returned (.slice (some ⟨g, 0, none⟩) m c) ∧ Below w.heap.size w w') (hm : 0 < m) (hn : ¬ n = m) :
    Calls Try.prog 6 #[.int .i64 K, .slice ad n cap, .int .i64 now] w fun e w' => e = .returned (.tuple #[.slice none 0 0, .int .i64 8]) ∧ Below w.heap.size w w' := by
  have HV : Hid _ := hV
  have h1 : ¬ (n : Int) = m := by omega
  have h2 : ¬ (m : Int) = 0 := by omega
  have h3 : ((m : Int) == 0) = false := by simpa using h2
  have h4 : ((n : Int) != m) = true := by simpa using h1
  clear hV
  go_enter Try.func6, Try.ntmps6
  go_wp2_with (go_at_call 13; refine (HV.out _).mono ?_; rintro e w1 ⟨g, c, rfl, hb⟩; have HB : Hid _ := hb; clear hb)
  go_ret2
  exact ⟨rfl, HB.out⟩
end Go.Proofs.Ytjnegbjgogkamaa
namespace Go.Proofs.Ytjnegbjgogkamaa
set_option linter.unusedVariables false
open Go.RowKit
theorem neqV (k x : Int) (s : ByteArray) (w : World) : (binOp .neq 27 (V k x s) (V k x s)).run Try.prog w = .ok (.bool false) w := by simp [go_sem]
set_option maxHeartbeats 1000000 in
theorem Equal_none (x y : Option Addr) (c d : Nat) (w : World) : Calls Try.prog 7 #[.slice x 0 c, .slice y 0 d] w fun e w' => e = .returned (.bool true) ∧ Below w.heap.size w w' := by
  go_enter Try.func7, Try.ntmps7
  go_wp2_with fail
  go_loopw [13] (fun i wr => i = .int .i64 0 ∧ wr = w) (fun _ _ => 0)
  case atStart => exact ⟨rfl, rfl⟩
  case round =>
    obtain ⟨rfl, rfl⟩ := hrel
    go_wp2
    go_ret
    exact ⟨rfl, Below.refl _ _⟩
set_option maxHeartbeats 2000000 in
theorem Equal_rows (a b : Addr) (n c d : Nat) (v : Nat → Vl) (w : World) (ha : VsAt w a n v) (hb : VsAt w b n v) (hn : n * 32 ≤ 140737488355328) : Calls Try.prog 7 #[.slice (some a) n c, .slice (some b) n d] w fun e w' => e = .returned (.bool true) ∧ Below w.heap.size w w' := by
  have HA : Hid (VsAt w a n v) := ha
  have HB : Hid (VsAt w b n v) := hb
  clear ha hb
  go_enter Try.func7, Try.ntmps7
  go_wp2_with fail
  go_loopw [13] (fun i wr => ∃ k : Nat, k ≤ n ∧ i = .int .i64 k ∧ Below w.heap.size w wr) (fun i _ => n - (intOf i).toNat)
  case atStart => exact ⟨0, Nat.zero_le _, rfl, Below.refl _ _⟩
  case round =>
    obtain ⟨k, hk, rfl, hbw⟩ := hrel
    have HW : Hid (Below w.heap.size w wr) := hbw
    by_cases hlt : k < n
    · obtain ⟨d0, d1, d2⟩ := HA.out.below hbw k hlt
      obtain ⟨e0, e1, e2⟩ := HB.out.below hbw k hlt
      have hlt' : (k : Int) < n := by omega
      have nv := neqV
      generalize v k = vk at *
      obtain ⟨vk, vb, vs⟩ := vk
      have za := block_lt_of_cell d0
      have zb := block_lt_of_cell e0
      clear hbw
      go_wp2_with fail
      have cy : ∀ x : Sub wr, x.w.cell? (a.add (k * 3)) = some (.int .u8 vk) := fun x => (x.h.cell za).trans d0
      have cz : ∀ x : Sub wr, x.w.cell? (b.add (k * 3)) = some (.int .u8 vk) := fun x => (x.h.cell zb).trans e0
      refine wp_region_sub2 (by kernel_rfl) (by kernel_rfl) ?_
      intro cx
      repeat (first | go_big_quiet_skip | (go_big_quiet_want; go_big_quiet_op; first | go_big_quiet_on | (refine ⟨_, fun _ => rfl, ?_⟩; go_big_quiet_on)))
      refine wpQuiet_nil ?_
      rintro _ ⟨y, rfl⟩
      have Y : Hid (Below wr.heap.size wr y.w) := y.h
      clear cx cy cz
      go_wp2
      exact ⟨⟨k + 1, by omega, by go_num, HW.out.trans (Y.out.mono HW.out.size)⟩, by simp [intOf]; omega⟩
    · have ek : k = n := by omega
      clear hbw
      go_wp2
      go_ret
      exact ⟨rfl, HW.out⟩
theorem sl_nilT (w : World) : (binOp .eql 22 (.slice none 0 0) (.slice none 0 0)).run Try.prog w = .ok (.bool true) w := by kernel_rfl
theorem own_zero {w : World} {base : Nat} {e : TypeId} {size : Nat} {x : Value} {xs : List Value} (h : w.ownsRow base e size x 0 xs) : ∃ y c, x = .slice y 0 c := by
  obtain ⟨_, h2⟩ := h
  rcases h2 with ⟨e, _⟩ | ⟨g, cap, cur, e, _⟩
  · exact ⟨_, _, e⟩
  · exact ⟨_, _, e⟩
set_option maxHeartbeats 1000000 in
theorem Clone_zero (ad : Option Addr) (cap : Nat) (w : World) (h0 : ad = none → cap = 0) :
    Calls Try.prog 4 #[.slice ad 0 cap] w fun e w' => ∃ y c, e = .returned (.slice y 0 c) ∧ Below w.heap.size w w' := by
  cases ad with
  | none =>
    obtain rfl := h0 rfl
    have sn := sl_nilT
    go_enter Try.func4, Try.ntmps4
    go_wp2
    go_ret
    exact ⟨⟨_, _, rfl⟩, Below.refl _ _⟩
  | some a =>
    have sn := sl_nil a 0 cap
    have I : Hid (∃ i, Try.prog.info? 27 = some i ∧ i.zero = some (.agg #[.int .u8 0, .int .u64 0, .string ⟨#[]⟩]) ∧ i.size = 3 ∧ i.bytes = 32) := by
      obtain ⟨i, hi, hz⟩ := Option.map_eq_some_iff.1 (show (Try.prog.info? 27).map (fun i => (i.zero, i.size, i.bytes)) = some (some (.agg #[.int .u8 0, .int .u64 0, .string ⟨#[]⟩]), 3, 32) by kernel_rfl)
      simp only [Prod.mk.injEq] at hz
      exact ⟨i, hi, hz.1, hz.2.1, hz.2.2⟩
    go_enter Try.func4, Try.ntmps4
    go_wp2_with (at_builtin; obtain ⟨i, hi, hz, hs, hy⟩ := I.out; refine wpList_append_own _ rfl _ _ 22 rfl w.heap.size 27 i _ 3 32 Try.underlying22 hi hz hs hy rfl (by decide) _ 0 [] rfl (own_none w) a 0 cap [] rfl rfl (fun j u hu => by simp at hu) (fun u hu => by simp at hu) (by simp) (by omega) (by simp) ?_; intro v' w' h1 h2 h3; obtain ⟨y, c, rfl⟩ := own_zero h1; have H2 : Hid _ := h2; clear h1 h2 h3 hi hz hs hy)
    go_ret
    exact ⟨y, c, rfl, ((Below.refl _ _).alloc (Nat.le_refl _) _).grown H2.out (by simp) (fun k e => by cases e; exact Nat.le_refl _)⟩
/-- What a Step answers: the cells behind it, or the fault. -/
def Ans (w w' : World) (n : Nat) (o : Option (Nat → Vl)) (e : Ending) : Prop :=
  Below w.heap.size w w' ∧ match o with
  | none => e = .returned (.tuple #[.slice none 0 0, .int .i64 8])
  | some u => ∃ g c, e = .returned (.tuple #[.slice (some ⟨g, 0, none⟩) n c, .int .i64 0]) ∧ w.heap.size ≤ g ∧ Row3 w' g n u
end Go.Proofs.Ytjnegbjgogkamaa
namespace Go.Proofs.Ytjnegbjgogkamaa
set_option linter.unusedVariables false
open Go.RowKit
/-- Both Steps answer so, of cells in whatever world. -/
def Both (K : Int) (n : Nat) (v : Nat → Vl) (now : Int) (o : Option (Nat → Vl)) : Prop :=
  (∀ (a : Addr) (cap : Nat) (w : World), VsAt w a n v → Calls Try.prog 5 #[.int .i64 K, .slice (some a) n cap, .int .i64 now] w fun e w' => Ans w w' n o e) ∧
  (∀ (a : Addr) (cap : Nat) (w : World), VsAt w a n v → Calls Try.prog 6 #[.int .i64 K, .slice (some a) n cap, .int .i64 now] w fun e w' => Ans w w' n o e)
theorem both_1 (n : Nat) (v : Nat → Vl) (now : Int) (ho : ∀ i, i < n → VlOk (v i)) : ∃ o, Both 1 n v now o := by
  by_cases hn : n = 3
  · subst hn
    cases ht : tkB ks3 v 3
    · refine ⟨none, fun a cap w hv => ?_, fun a cap w hv => ?_⟩
      · exact (Step_no 1 ⟨#[83, 82]⟩ ⟨#[83, 49, 32, 82, 32, 81, 49]⟩ ks3 2 1 33 a 3 cap v now w numbered_1 hv ho rfl (by decide) ht).mono fun e w' ⟨h1, h2⟩ => ⟨h2, h1⟩
      · exact (StepR_1 a cap v now w hv ho).mono fun e w' ⟨h1, h2, h3⟩ => ⟨h3, h2 ht⟩
    · refine ⟨some (vlL ks3 (nxt 1 (clN now) (nmL 3 v))), fun a cap w hv => ?_, fun a cap w hv => ?_⟩
      · exact (Step_1 a cap v now w hv ho ht).mono fun e w' ⟨g, h1, h2, h3, h4⟩ => ⟨h4, g, 3, h1, h2, h3⟩
      · exact (StepR_1 a cap v now w hv ho).mono fun e w' ⟨h1, h2, h3⟩ => ⟨h3, h1 ht⟩
  · refine ⟨none, fun a cap w hv => ?_, fun a cap w hv => ?_⟩
    · exact (Step_len 1 ⟨#[83, 82]⟩ ⟨#[83, 49, 32, 82, 32, 81, 49]⟩ ks3 2 1 33 (some a) n cap now w numbered_1 hn).mono fun e w' ⟨h1, h2⟩ => ⟨h2, h1⟩
    · exact (StepR_len 1 now 3 (some a) n cap w (fun w => (VarsR_1 w).mono fun e w' ⟨g, c, h1, _, _, h2⟩ => ⟨g, c, h1, h2⟩) (by decide) hn).mono fun e w' ⟨h1, h2⟩ => ⟨h2, h1⟩
theorem zero_1 (ad : Option Addr) (cap : Nat) (now : Int) (w : World) : (Calls Try.prog 5 #[.int .i64 1, .slice ad 0 cap, .int .i64 now] w fun e w' => Ans w w' 0 none e) ∧ (Calls Try.prog 6 #[.int .i64 1, .slice ad 0 cap, .int .i64 now] w fun e w' => Ans w w' 0 none e) :=
  ⟨(Step_len 1 ⟨#[83, 82]⟩ ⟨#[83, 49, 32, 82, 32, 81, 49]⟩ ks3 2 1 33 ad 0 cap now w numbered_1 (by decide)).mono fun e w' ⟨h1, h2⟩ => ⟨h2, h1⟩,
   (StepR_len 1 now 3 ad 0 cap w (fun w => (VarsR_1 w).mono fun e w' ⟨g, c, h1, _, _, h2⟩ => ⟨g, c, h1, h2⟩) (by decide) (by decide)).mono fun e w' ⟨h1, h2⟩ => ⟨h2, h1⟩⟩
theorem both_2 (n : Nat) (v : Nat → Vl) (now : Int) (ho : ∀ i, i < n → VlOk (v i)) : ∃ o, Both 2 n v now o := by
  by_cases hn : n = 3
  · subst hn
    cases ht : tkB ks3 v 3
    · refine ⟨none, fun a cap w hv => ?_, fun a cap w hv => ?_⟩
      · exact (Step_no 2 ⟨#[82, 83]⟩ ⟨#[83, 32, 82, 49, 32, 81, 49]⟩ ks3 2 1 34 a 3 cap v now w numbered_2 hv ho rfl (by decide) ht).mono fun e w' ⟨h1, h2⟩ => ⟨h2, h1⟩
      · exact (StepR_2 a cap v now w hv ho).mono fun e w' ⟨h1, h2, h3⟩ => ⟨h3, h2 ht⟩
    · refine ⟨some (vlL ks3 (nxt 2 (clN now) (nmL 3 v))), fun a cap w hv => ?_, fun a cap w hv => ?_⟩
      · exact (Step_2 a cap v now w hv ho ht).mono fun e w' ⟨g, h1, h2, h3, h4⟩ => ⟨h4, g, 3, h1, h2, h3⟩
      · exact (StepR_2 a cap v now w hv ho).mono fun e w' ⟨h1, h2, h3⟩ => ⟨h3, h1 ht⟩
  · refine ⟨none, fun a cap w hv => ?_, fun a cap w hv => ?_⟩
    · exact (Step_len 2 ⟨#[82, 83]⟩ ⟨#[83, 32, 82, 49, 32, 81, 49]⟩ ks3 2 1 34 (some a) n cap now w numbered_2 hn).mono fun e w' ⟨h1, h2⟩ => ⟨h2, h1⟩
    · exact (StepR_len 2 now 3 (some a) n cap w (fun w => (VarsR_2 w).mono fun e w' ⟨g, c, h1, _, _, h2⟩ => ⟨g, c, h1, h2⟩) (by decide) hn).mono fun e w' ⟨h1, h2⟩ => ⟨h2, h1⟩
theorem zero_2 (ad : Option Addr) (cap : Nat) (now : Int) (w : World) : (Calls Try.prog 5 #[.int .i64 2, .slice ad 0 cap, .int .i64 now] w fun e w' => Ans w w' 0 none e) ∧ (Calls Try.prog 6 #[.int .i64 2, .slice ad 0 cap, .int .i64 now] w fun e w' => Ans w w' 0 none e) :=
  ⟨(Step_len 2 ⟨#[82, 83]⟩ ⟨#[83, 32, 82, 49, 32, 81, 49]⟩ ks3 2 1 34 ad 0 cap now w numbered_2 (by decide)).mono fun e w' ⟨h1, h2⟩ => ⟨h2, h1⟩,
   (StepR_len 2 now 3 ad 0 cap w (fun w => (VarsR_2 w).mono fun e w' ⟨g, c, h1, _, _, h2⟩ => ⟨g, c, h1, h2⟩) (by decide) (by decide)).mono fun e w' ⟨h1, h2⟩ => ⟨h2, h1⟩⟩
theorem both_3 (n : Nat) (v : Nat → Vl) (now : Int) (ho : ∀ i, i < n → VlOk (v i)) : ∃ o, Both 3 n v now o := by
  by_cases hn : n = 3
  · subst hn
    cases ht : tkB ks3 v 3
    · refine ⟨none, fun a cap w hv => ?_, fun a cap w hv => ?_⟩
      · exact (Step_no 3 ⟨#[82, 95, 84, 82, 73, 71]⟩ ⟨#[67, 76, 75, 32, 81, 32, 77]⟩ ks3 1 1 35 a 3 cap v now w numbered_3 hv ho rfl (by decide) ht).mono fun e w' ⟨h1, h2⟩ => ⟨h2, h1⟩
      · exact (StepR_3 a cap v now w hv ho).mono fun e w' ⟨h1, h2, h3⟩ => ⟨h3, h2 ht⟩
    · refine ⟨some (vlL ks3 (nxt 3 (clN now) (nmL 3 v))), fun a cap w hv => ?_, fun a cap w hv => ?_⟩
      · exact (Step_3 a cap v now w hv ho ht).mono fun e w' ⟨g, h1, h2, h3, h4⟩ => ⟨h4, g, 3, h1, h2, h3⟩
      · exact (StepR_3 a cap v now w hv ho).mono fun e w' ⟨h1, h2, h3⟩ => ⟨h3, h1 ht⟩
  · refine ⟨none, fun a cap w hv => ?_, fun a cap w hv => ?_⟩
    · exact (Step_len 3 ⟨#[82, 95, 84, 82, 73, 71]⟩ ⟨#[67, 76, 75, 32, 81, 32, 77]⟩ ks3 1 1 35 (some a) n cap now w numbered_3 hn).mono fun e w' ⟨h1, h2⟩ => ⟨h2, h1⟩
    · exact (StepR_len 3 now 3 (some a) n cap w (fun w => (VarsR_3 w).mono fun e w' ⟨g, c, h1, _, _, h2⟩ => ⟨g, c, h1, h2⟩) (by decide) hn).mono fun e w' ⟨h1, h2⟩ => ⟨h2, h1⟩
theorem zero_3 (ad : Option Addr) (cap : Nat) (now : Int) (w : World) : (Calls Try.prog 5 #[.int .i64 3, .slice ad 0 cap, .int .i64 now] w fun e w' => Ans w w' 0 none e) ∧ (Calls Try.prog 6 #[.int .i64 3, .slice ad 0 cap, .int .i64 now] w fun e w' => Ans w w' 0 none e) :=
  ⟨(Step_len 3 ⟨#[82, 95, 84, 82, 73, 71]⟩ ⟨#[67, 76, 75, 32, 81, 32, 77]⟩ ks3 1 1 35 ad 0 cap now w numbered_3 (by decide)).mono fun e w' ⟨h1, h2⟩ => ⟨h2, h1⟩,
   (StepR_len 3 now 3 ad 0 cap w (fun w => (VarsR_3 w).mono fun e w' ⟨g, c, h1, _, _, h2⟩ => ⟨g, c, h1, h2⟩) (by decide) (by decide)).mono fun e w' ⟨h1, h2⟩ => ⟨h2, h1⟩⟩
theorem both_4 (n : Nat) (v : Nat → Vl) (now : Int) (ho : ∀ i, i < n → VlOk (v i)) : ∃ o, Both 4 n v now o := by
  by_cases hn : n = 3
  · subst hn
    cases ht : tkB ks3 v 3
    · refine ⟨none, fun a cap w hv => ?_, fun a cap w hv => ?_⟩
      · exact (Step_no 4 ⟨#[70, 95, 84, 82, 73, 71]⟩ ⟨#[67, 76, 75, 32, 81, 32, 77]⟩ ks3 1 1 36 a 3 cap v now w numbered_4 hv ho rfl (by decide) ht).mono fun e w' ⟨h1, h2⟩ => ⟨h2, h1⟩
      · exact (StepR_4 a cap v now w hv ho).mono fun e w' ⟨h1, h2, h3⟩ => ⟨h3, h2 ht⟩
    · refine ⟨some (vlL ks3 (nxt 4 (clN now) (nmL 3 v))), fun a cap w hv => ?_, fun a cap w hv => ?_⟩
      · exact (Step_4 a cap v now w hv ho ht).mono fun e w' ⟨g, h1, h2, h3, h4⟩ => ⟨h4, g, 3, h1, h2, h3⟩
      · exact (StepR_4 a cap v now w hv ho).mono fun e w' ⟨h1, h2, h3⟩ => ⟨h3, h1 ht⟩
  · refine ⟨none, fun a cap w hv => ?_, fun a cap w hv => ?_⟩
    · exact (Step_len 4 ⟨#[70, 95, 84, 82, 73, 71]⟩ ⟨#[67, 76, 75, 32, 81, 32, 77]⟩ ks3 1 1 36 (some a) n cap now w numbered_4 hn).mono fun e w' ⟨h1, h2⟩ => ⟨h2, h1⟩
    · exact (StepR_len 4 now 3 (some a) n cap w (fun w => (VarsR_4 w).mono fun e w' ⟨g, c, h1, _, _, h2⟩ => ⟨g, c, h1, h2⟩) (by decide) hn).mono fun e w' ⟨h1, h2⟩ => ⟨h2, h1⟩
theorem zero_4 (ad : Option Addr) (cap : Nat) (now : Int) (w : World) : (Calls Try.prog 5 #[.int .i64 4, .slice ad 0 cap, .int .i64 now] w fun e w' => Ans w w' 0 none e) ∧ (Calls Try.prog 6 #[.int .i64 4, .slice ad 0 cap, .int .i64 now] w fun e w' => Ans w w' 0 none e) :=
  ⟨(Step_len 4 ⟨#[70, 95, 84, 82, 73, 71]⟩ ⟨#[67, 76, 75, 32, 81, 32, 77]⟩ ks3 1 1 36 ad 0 cap now w numbered_4 (by decide)).mono fun e w' ⟨h1, h2⟩ => ⟨h2, h1⟩,
   (StepR_len 4 now 3 ad 0 cap w (fun w => (VarsR_4 w).mono fun e w' ⟨g, c, h1, _, _, h2⟩ => ⟨g, c, h1, h2⟩) (by decide) (by decide)).mono fun e w' ⟨h1, h2⟩ => ⟨h2, h1⟩⟩
theorem both_5 (n : Nat) (v : Nat → Vl) (now : Int) (ho : ∀ i, i < n → VlOk (v i)) : ∃ o, Both 5 n v now o := by
  by_cases hn : n = 6
  · subst hn
    cases ht : tkB ksC v 6
    · refine ⟨none, fun a cap w hv => ?_, fun a cap w hv => ?_⟩
      · exact (Step_no 5 ⟨#[67, 84, 85]⟩ ⟨#[67, 85, 32, 82, 32, 80, 86, 32, 81, 32, 67, 86, 32, 77]⟩ ksC 3 2 37 a 6 cap v now w numbered_5 hv ho rfl (by decide) ht).mono fun e w' ⟨h1, h2⟩ => ⟨h2, h1⟩
      · exact (StepR_5 a cap v now w hv ho).mono fun e w' ⟨h1, h2, h3⟩ => ⟨h3, h2 ht⟩
    · refine ⟨some (vlL ksC (nxt 5 (clN now) (nmL 6 v))), fun a cap w hv => ?_, fun a cap w hv => ?_⟩
      · exact (Step_5 a cap v now w hv ho ht).mono fun e w' ⟨g, h1, h2, h3, h4⟩ => ⟨h4, g, 6, h1, h2, h3⟩
      · exact (StepR_5 a cap v now w hv ho).mono fun e w' ⟨h1, h2, h3⟩ => ⟨h3, h1 ht⟩
  · refine ⟨none, fun a cap w hv => ?_, fun a cap w hv => ?_⟩
    · exact (Step_len 5 ⟨#[67, 84, 85]⟩ ⟨#[67, 85, 32, 82, 32, 80, 86, 32, 81, 32, 67, 86, 32, 77]⟩ ksC 3 2 37 (some a) n cap now w numbered_5 hn).mono fun e w' ⟨h1, h2⟩ => ⟨h2, h1⟩
    · exact (StepR_len 5 now 6 (some a) n cap w (fun w => (VarsR_5 w).mono fun e w' ⟨g, c, h1, _, _, h2⟩ => ⟨g, c, h1, h2⟩) (by decide) hn).mono fun e w' ⟨h1, h2⟩ => ⟨h2, h1⟩
theorem zero_5 (ad : Option Addr) (cap : Nat) (now : Int) (w : World) : (Calls Try.prog 5 #[.int .i64 5, .slice ad 0 cap, .int .i64 now] w fun e w' => Ans w w' 0 none e) ∧ (Calls Try.prog 6 #[.int .i64 5, .slice ad 0 cap, .int .i64 now] w fun e w' => Ans w w' 0 none e) :=
  ⟨(Step_len 5 ⟨#[67, 84, 85]⟩ ⟨#[67, 85, 32, 82, 32, 80, 86, 32, 81, 32, 67, 86, 32, 77]⟩ ksC 3 2 37 ad 0 cap now w numbered_5 (by decide)).mono fun e w' ⟨h1, h2⟩ => ⟨h2, h1⟩,
   (StepR_len 5 now 6 ad 0 cap w (fun w => (VarsR_5 w).mono fun e w' ⟨g, c, h1, _, _, h2⟩ => ⟨g, c, h1, h2⟩) (by decide) (by decide)).mono fun e w' ⟨h1, h2⟩ => ⟨h2, h1⟩⟩
theorem both_6 (n : Nat) (v : Nat → Vl) (now : Int) (ho : ∀ i, i < n → VlOk (v i)) : ∃ o, Both 6 n v now o := by
  by_cases hn : n = 6
  · subst hn
    cases ht : tkB ksC v 6
    · refine ⟨none, fun a cap w hv => ?_, fun a cap w hv => ?_⟩
      · exact (Step_no 6 ⟨#[67, 84, 68]⟩ ⟨#[67, 68, 32, 76, 68, 32, 80, 86, 32, 81, 32, 67, 86, 32, 77]⟩ ksC 3 2 38 a 6 cap v now w numbered_6 hv ho rfl (by decide) ht).mono fun e w' ⟨h1, h2⟩ => ⟨h2, h1⟩
      · exact (StepR_6 a cap v now w hv ho).mono fun e w' ⟨h1, h2, h3⟩ => ⟨h3, h2 ht⟩
    · refine ⟨some (vlL ksC (nxt 6 (clN now) (nmL 6 v))), fun a cap w hv => ?_, fun a cap w hv => ?_⟩
      · exact (Step_6 a cap v now w hv ho ht).mono fun e w' ⟨g, h1, h2, h3, h4⟩ => ⟨h4, g, 6, h1, h2, h3⟩
      · exact (StepR_6 a cap v now w hv ho).mono fun e w' ⟨h1, h2, h3⟩ => ⟨h3, h1 ht⟩
  · refine ⟨none, fun a cap w hv => ?_, fun a cap w hv => ?_⟩
    · exact (Step_len 6 ⟨#[67, 84, 68]⟩ ⟨#[67, 68, 32, 76, 68, 32, 80, 86, 32, 81, 32, 67, 86, 32, 77]⟩ ksC 3 2 38 (some a) n cap now w numbered_6 hn).mono fun e w' ⟨h1, h2⟩ => ⟨h2, h1⟩
    · exact (StepR_len 6 now 6 (some a) n cap w (fun w => (VarsR_6 w).mono fun e w' ⟨g, c, h1, _, _, h2⟩ => ⟨g, c, h1, h2⟩) (by decide) hn).mono fun e w' ⟨h1, h2⟩ => ⟨h2, h1⟩
theorem zero_6 (ad : Option Addr) (cap : Nat) (now : Int) (w : World) : (Calls Try.prog 5 #[.int .i64 6, .slice ad 0 cap, .int .i64 now] w fun e w' => Ans w w' 0 none e) ∧ (Calls Try.prog 6 #[.int .i64 6, .slice ad 0 cap, .int .i64 now] w fun e w' => Ans w w' 0 none e) :=
  ⟨(Step_len 6 ⟨#[67, 84, 68]⟩ ⟨#[67, 68, 32, 76, 68, 32, 80, 86, 32, 81, 32, 67, 86, 32, 77]⟩ ksC 3 2 38 ad 0 cap now w numbered_6 (by decide)).mono fun e w' ⟨h1, h2⟩ => ⟨h2, h1⟩,
   (StepR_len 6 now 6 ad 0 cap w (fun w => (VarsR_6 w).mono fun e w' ⟨g, c, h1, _, _, h2⟩ => ⟨g, c, h1, h2⟩) (by decide) (by decide)).mono fun e w' ⟨h1, h2⟩ => ⟨h2, h1⟩⟩
theorem both_7 (n : Nat) (v : Nat → Vl) (now : Int) (ho : ∀ i, i < n → VlOk (v i)) : ∃ o, Both 7 n v now o := by
  by_cases hn : n = 10
  · subst hn
    cases ht : tkB ksB v 10
    · refine ⟨none, fun a cap w hv => ?_, fun a cap w hv => ?_⟩
      · exact (Step_no 7 ⟨#[67, 84, 85, 68]⟩ ⟨#[67, 85, 32, 67, 68, 32, 82, 32, 76, 68, 32, 80, 86, 32, 81, 85, 32, 81, 68, 32, 67, 86, 32, 77, 32, 78]⟩ ksB 5 3 39 a 10 cap v now w numbered_7 hv ho rfl (by decide) ht).mono fun e w' ⟨h1, h2⟩ => ⟨h2, h1⟩
      · exact (StepR_7 a cap v now w hv ho).mono fun e w' ⟨h1, h2, h3⟩ => ⟨h3, h2 ht⟩
    · refine ⟨some (vlL ksB (nxt 7 (clN now) (nmL 10 v))), fun a cap w hv => ?_, fun a cap w hv => ?_⟩
      · exact (Step_7 a cap v now w hv ho ht).mono fun e w' ⟨g, h1, h2, h3, h4⟩ => ⟨h4, g, 10, h1, h2, h3⟩
      · exact (StepR_7 a cap v now w hv ho).mono fun e w' ⟨h1, h2, h3⟩ => ⟨h3, h1 ht⟩
  · refine ⟨none, fun a cap w hv => ?_, fun a cap w hv => ?_⟩
    · exact (Step_len 7 ⟨#[67, 84, 85, 68]⟩ ⟨#[67, 85, 32, 67, 68, 32, 82, 32, 76, 68, 32, 80, 86, 32, 81, 85, 32, 81, 68, 32, 67, 86, 32, 77, 32, 78]⟩ ksB 5 3 39 (some a) n cap now w numbered_7 hn).mono fun e w' ⟨h1, h2⟩ => ⟨h2, h1⟩
    · exact (StepR_len 7 now 10 (some a) n cap w (fun w => (VarsR_7 w).mono fun e w' ⟨g, c, h1, _, _, h2⟩ => ⟨g, c, h1, h2⟩) (by decide) hn).mono fun e w' ⟨h1, h2⟩ => ⟨h2, h1⟩
theorem zero_7 (ad : Option Addr) (cap : Nat) (now : Int) (w : World) : (Calls Try.prog 5 #[.int .i64 7, .slice ad 0 cap, .int .i64 now] w fun e w' => Ans w w' 0 none e) ∧ (Calls Try.prog 6 #[.int .i64 7, .slice ad 0 cap, .int .i64 now] w fun e w' => Ans w w' 0 none e) :=
  ⟨(Step_len 7 ⟨#[67, 84, 85, 68]⟩ ⟨#[67, 85, 32, 67, 68, 32, 82, 32, 76, 68, 32, 80, 86, 32, 81, 85, 32, 81, 68, 32, 67, 86, 32, 77, 32, 78]⟩ ksB 5 3 39 ad 0 cap now w numbered_7 (by decide)).mono fun e w' ⟨h1, h2⟩ => ⟨h2, h1⟩,
   (StepR_len 7 now 10 ad 0 cap w (fun w => (VarsR_7 w).mono fun e w' ⟨g, c, h1, _, _, h2⟩ => ⟨g, c, h1, h2⟩) (by decide) (by decide)).mono fun e w' ⟨h1, h2⟩ => ⟨h2, h1⟩⟩
theorem both_8 (n : Nat) (v : Nat → Vl) (now : Int) (ho : ∀ i, i < n → VlOk (v i)) : ∃ o, Both 8 n v now o := by
  by_cases hn : n = 6
  · subst hn
    cases ht : tkB ksT v 6
    · refine ⟨none, fun a cap w hv => ?_, fun a cap w hv => ?_⟩
      · exact (Step_no 8 ⟨#[84, 80]⟩ ⟨#[73, 78, 32, 80, 84, 32, 81, 32, 69, 84, 32, 77, 32, 83]⟩ ksT 2 2 40 a 6 cap v now w numbered_8 hv ho rfl (by decide) ht).mono fun e w' ⟨h1, h2⟩ => ⟨h2, h1⟩
      · exact (StepR_8 a cap v now w hv ho).mono fun e w' ⟨h1, h2, h3⟩ => ⟨h3, h2 ht⟩
    · refine ⟨some (vlL ksT (nxt 8 (clN now) (nmL 6 v))), fun a cap w hv => ?_, fun a cap w hv => ?_⟩
      · exact (Step_8 a cap v now w hv ho ht).mono fun e w' ⟨g, h1, h2, h3, h4⟩ => ⟨h4, g, 6, h1, h2, h3⟩
      · exact (StepR_8 a cap v now w hv ho).mono fun e w' ⟨h1, h2, h3⟩ => ⟨h3, h1 ht⟩
  · refine ⟨none, fun a cap w hv => ?_, fun a cap w hv => ?_⟩
    · exact (Step_len 8 ⟨#[84, 80]⟩ ⟨#[73, 78, 32, 80, 84, 32, 81, 32, 69, 84, 32, 77, 32, 83]⟩ ksT 2 2 40 (some a) n cap now w numbered_8 hn).mono fun e w' ⟨h1, h2⟩ => ⟨h2, h1⟩
    · exact (StepR_len 8 now 6 (some a) n cap w (fun w => (VarsR_8 w).mono fun e w' ⟨g, c, h1, _, _, h2⟩ => ⟨g, c, h1, h2⟩) (by decide) hn).mono fun e w' ⟨h1, h2⟩ => ⟨h2, h1⟩
theorem zero_8 (ad : Option Addr) (cap : Nat) (now : Int) (w : World) : (Calls Try.prog 5 #[.int .i64 8, .slice ad 0 cap, .int .i64 now] w fun e w' => Ans w w' 0 none e) ∧ (Calls Try.prog 6 #[.int .i64 8, .slice ad 0 cap, .int .i64 now] w fun e w' => Ans w w' 0 none e) :=
  ⟨(Step_len 8 ⟨#[84, 80]⟩ ⟨#[73, 78, 32, 80, 84, 32, 81, 32, 69, 84, 32, 77, 32, 83]⟩ ksT 2 2 40 ad 0 cap now w numbered_8 (by decide)).mono fun e w' ⟨h1, h2⟩ => ⟨h2, h1⟩,
   (StepR_len 8 now 6 ad 0 cap w (fun w => (VarsR_8 w).mono fun e w' ⟨g, c, h1, _, _, h2⟩ => ⟨g, c, h1, h2⟩) (by decide) (by decide)).mono fun e w' ⟨h1, h2⟩ => ⟨h2, h1⟩⟩
theorem both_9 (n : Nat) (v : Nat → Vl) (now : Int) (ho : ∀ i, i < n → VlOk (v i)) : ∃ o, Both 9 n v now o := by
  by_cases hn : n = 6
  · subst hn
    cases ht : tkB ksT v 6
    · refine ⟨none, fun a cap w hv => ?_, fun a cap w hv => ?_⟩
      · exact (Step_no 9 ⟨#[84, 79, 78]⟩ ⟨#[73, 78, 32, 80, 84, 32, 81, 32, 69, 84, 32, 77, 32, 83]⟩ ksT 2 2 41 a 6 cap v now w numbered_9 hv ho rfl (by decide) ht).mono fun e w' ⟨h1, h2⟩ => ⟨h2, h1⟩
      · exact (StepR_9 a cap v now w hv ho).mono fun e w' ⟨h1, h2, h3⟩ => ⟨h3, h2 ht⟩
    · refine ⟨some (vlL ksT (nxt 9 (clN now) (nmL 6 v))), fun a cap w hv => ?_, fun a cap w hv => ?_⟩
      · exact (Step_9 a cap v now w hv ho ht).mono fun e w' ⟨g, h1, h2, h3, h4⟩ => ⟨h4, g, 6, h1, h2, h3⟩
      · exact (StepR_9 a cap v now w hv ho).mono fun e w' ⟨h1, h2, h3⟩ => ⟨h3, h1 ht⟩
  · refine ⟨none, fun a cap w hv => ?_, fun a cap w hv => ?_⟩
    · exact (Step_len 9 ⟨#[84, 79, 78]⟩ ⟨#[73, 78, 32, 80, 84, 32, 81, 32, 69, 84, 32, 77, 32, 83]⟩ ksT 2 2 41 (some a) n cap now w numbered_9 hn).mono fun e w' ⟨h1, h2⟩ => ⟨h2, h1⟩
    · exact (StepR_len 9 now 6 (some a) n cap w (fun w => (VarsR_9 w).mono fun e w' ⟨g, c, h1, _, _, h2⟩ => ⟨g, c, h1, h2⟩) (by decide) hn).mono fun e w' ⟨h1, h2⟩ => ⟨h2, h1⟩
theorem zero_9 (ad : Option Addr) (cap : Nat) (now : Int) (w : World) : (Calls Try.prog 5 #[.int .i64 9, .slice ad 0 cap, .int .i64 now] w fun e w' => Ans w w' 0 none e) ∧ (Calls Try.prog 6 #[.int .i64 9, .slice ad 0 cap, .int .i64 now] w fun e w' => Ans w w' 0 none e) :=
  ⟨(Step_len 9 ⟨#[84, 79, 78]⟩ ⟨#[73, 78, 32, 80, 84, 32, 81, 32, 69, 84, 32, 77, 32, 83]⟩ ksT 2 2 41 ad 0 cap now w numbered_9 (by decide)).mono fun e w' ⟨h1, h2⟩ => ⟨h2, h1⟩,
   (StepR_len 9 now 6 ad 0 cap w (fun w => (VarsR_9 w).mono fun e w' ⟨g, c, h1, _, _, h2⟩ => ⟨g, c, h1, h2⟩) (by decide) (by decide)).mono fun e w' ⟨h1, h2⟩ => ⟨h2, h1⟩⟩
theorem both_10 (n : Nat) (v : Nat → Vl) (now : Int) (ho : ∀ i, i < n → VlOk (v i)) : ∃ o, Both 10 n v now o := by
  by_cases hn : n = 6
  · subst hn
    cases ht : tkB ksT v 6
    · refine ⟨none, fun a cap w hv => ?_, fun a cap w hv => ?_⟩
      · exact (Step_no 10 ⟨#[84, 79, 70]⟩ ⟨#[73, 78, 32, 80, 84, 32, 81, 32, 69, 84, 32, 77, 32, 83]⟩ ksT 2 2 42 a 6 cap v now w numbered_10 hv ho rfl (by decide) ht).mono fun e w' ⟨h1, h2⟩ => ⟨h2, h1⟩
      · exact (StepR_10 a cap v now w hv ho).mono fun e w' ⟨h1, h2, h3⟩ => ⟨h3, h2 ht⟩
    · refine ⟨some (vlL ksT (nxt 10 (clN now) (nmL 6 v))), fun a cap w hv => ?_, fun a cap w hv => ?_⟩
      · exact (Step_10 a cap v now w hv ho ht).mono fun e w' ⟨g, h1, h2, h3, h4⟩ => ⟨h4, g, 6, h1, h2, h3⟩
      · exact (StepR_10 a cap v now w hv ho).mono fun e w' ⟨h1, h2, h3⟩ => ⟨h3, h1 ht⟩
  · refine ⟨none, fun a cap w hv => ?_, fun a cap w hv => ?_⟩
    · exact (Step_len 10 ⟨#[84, 79, 70]⟩ ⟨#[73, 78, 32, 80, 84, 32, 81, 32, 69, 84, 32, 77, 32, 83]⟩ ksT 2 2 42 (some a) n cap now w numbered_10 hn).mono fun e w' ⟨h1, h2⟩ => ⟨h2, h1⟩
    · exact (StepR_len 10 now 6 (some a) n cap w (fun w => (VarsR_10 w).mono fun e w' ⟨g, c, h1, _, _, h2⟩ => ⟨g, c, h1, h2⟩) (by decide) hn).mono fun e w' ⟨h1, h2⟩ => ⟨h2, h1⟩
theorem zero_10 (ad : Option Addr) (cap : Nat) (now : Int) (w : World) : (Calls Try.prog 5 #[.int .i64 10, .slice ad 0 cap, .int .i64 now] w fun e w' => Ans w w' 0 none e) ∧ (Calls Try.prog 6 #[.int .i64 10, .slice ad 0 cap, .int .i64 now] w fun e w' => Ans w w' 0 none e) :=
  ⟨(Step_len 10 ⟨#[84, 79, 70]⟩ ⟨#[73, 78, 32, 80, 84, 32, 81, 32, 69, 84, 32, 77, 32, 83]⟩ ksT 2 2 42 ad 0 cap now w numbered_10 (by decide)).mono fun e w' ⟨h1, h2⟩ => ⟨h2, h1⟩,
   (StepR_len 10 now 6 ad 0 cap w (fun w => (VarsR_10 w).mono fun e w' ⟨g, c, h1, _, _, h2⟩ => ⟨g, c, h1, h2⟩) (by decide) (by decide)).mono fun e w' ⟨h1, h2⟩ => ⟨h2, h1⟩⟩
theorem K_cases (K : Int) : (K ≤ 0 ∨ 11 ≤ K) ∨ K = 1 ∨ K = 2 ∨ K = 3 ∨ K = 4 ∨ K = 5 ∨ K = 6 ∨ K = 7 ∨ K = 8 ∨ K = 9 ∨ K = 10 := by omega
theorem step_both (K : Int) (n : Nat) (v : Nat → Vl) (now : Int) (ho : ∀ i, i < n → VlOk (v i)) : ∃ o, Both K n v now o := by
  rcases K_cases K with h | rfl | rfl | rfl | rfl | rfl | rfl | rfl | rfl | rfl | rfl
  · exact ⟨none, fun a cap w hv => (Step_bad K now _ w h).mono fun e w' ⟨h1, h2⟩ => ⟨h2, h1⟩, fun a cap w hv => (StepR_bad K now _ w h).mono fun e w' ⟨h1, h2⟩ => ⟨h2, h1⟩⟩
  · exact both_1 n v now ho
  · exact both_2 n v now ho
  · exact both_3 n v now ho
  · exact both_4 n v now ho
  · exact both_5 n v now ho
  · exact both_6 n v now ho
  · exact both_7 n v now ho
  · exact both_8 n v now ho
  · exact both_9 n v now ho
  · exact both_10 n v now ho
theorem stepZ (K : Int) (ad : Option Addr) (cap : Nat) (now : Int) : (∀ w, Calls Try.prog 5 #[.int .i64 K, .slice ad 0 cap, .int .i64 now] w fun e w' => Ans w w' 0 none e) ∧ (∀ w, Calls Try.prog 6 #[.int .i64 K, .slice ad 0 cap, .int .i64 now] w fun e w' => Ans w w' 0 none e) := by
  rcases K_cases K with h | rfl | rfl | rfl | rfl | rfl | rfl | rfl | rfl | rfl | rfl
  · exact ⟨fun w => (Step_bad K now _ w h).mono fun e w' ⟨h1, h2⟩ => ⟨h2, h1⟩, fun w => (StepR_bad K now _ w h).mono fun e w' ⟨h1, h2⟩ => ⟨h2, h1⟩⟩
  · exact ⟨fun w => (zero_1 ad cap now w).1, fun w => (zero_1 ad cap now w).2⟩
  · exact ⟨fun w => (zero_2 ad cap now w).1, fun w => (zero_2 ad cap now w).2⟩
  · exact ⟨fun w => (zero_3 ad cap now w).1, fun w => (zero_3 ad cap now w).2⟩
  · exact ⟨fun w => (zero_4 ad cap now w).1, fun w => (zero_4 ad cap now w).2⟩
  · exact ⟨fun w => (zero_5 ad cap now w).1, fun w => (zero_5 ad cap now w).2⟩
  · exact ⟨fun w => (zero_6 ad cap now w).1, fun w => (zero_6 ad cap now w).2⟩
  · exact ⟨fun w => (zero_7 ad cap now w).1, fun w => (zero_7 ad cap now w).2⟩
  · exact ⟨fun w => (zero_8 ad cap now w).1, fun w => (zero_8 ad cap now w).2⟩
  · exact ⟨fun w => (zero_9 ad cap now w).1, fun w => (zero_9 ad cap now w).2⟩
  · exact ⟨fun w => (zero_10 ad cap now w).1, fun w => (zero_10 ad cap now w).2⟩
end Go.Proofs.Ytjnegbjgogkamaa
namespace Go.Proofs.Ytjnegbjgogkamaa
set_option linter.unusedVariables false
open Go.RowKit Go.ChangeShapes Go.WideShapes Go.ChangeAt Go.Joins
theorem cellsV : Try.prog.cellsOf 27 = 3 := by kernel_rfl
set_option maxRecDepth 100000 in
theorem open_V {H : Type} {enc : TypeId × Value → H} {w : World} {base b0 : Nat} {spare : Nat → Bool} {held : Bool} {r : Reach} {v : Value} {d : DataW H} {p : List MemPlace}
    (hv : Value.okWide Try.prog w r b0 27 v) (h : DataW.Trod enc Try.prog w base spare held 27 v d p) :
    ∃ k b s, v = V k b s ∧ (0 ≤ k ∧ k < 256) ∧ 0 ≤ b ∧ b < 18446744073709551616 ∧ s.size ≤ maxLen := by
  obtain ⟨c0, c1, c2, y0, y1, y2, m, rfl, rfl, rfl, hy0, hy1, hy2⟩ := open_agg3 Try.underlying27 (by kernel_rfl) cellsV hv h
  obtain ⟨k, e0, _, wk⟩ := DataW.trod_int Try.underlying24 hy0
  obtain ⟨b, e1, _, wb⟩ := DataW.trod_int Try.underlying25 hy1
  obtain ⟨s, e2, _, ws⟩ := DataW.trod_string Try.underlying9 hy2
  simp at e0 e1 e2
  subst e0 e1 e2
  have bk := bounds_u8 wk
  have bb := bounds_u64 wb
  exact ⟨k, b, s, rfl, by omega, by omega, by omega, ws⟩
end Go.Proofs.Ytjnegbjgogkamaa
namespace Go.Proofs.Ytjnegbjgogkamaa
set_option linter.unusedVariables false
open Go.RowKit Go.ChangeShapes Go.WideShapes Go.ChangeAt Go.Joins Go.Deep
section
variable {H : Type} {enc : TypeId × Value → H} {w : World} {base b0 : Nat} {spare : Nat → Bool} {held : Bool} {r : Reach} {v : Value} {d : DataW H} {p : List MemPlace}
set_option maxRecDepth 100000 in
/-- One value, of its three cells. -/
theorem value_cells {n : Nat} {cs : List Value} {x : DataW H × List MemPlace} (h : DataW.trod enc Try.prog w base spare held n 27 cs = some x) : ∃ u : Vl, VlOk u ∧ cs = [.int .u8 u.k, .int .u64 u.b, .string u.s] := by
  obtain ⟨y0, y1, y2, m, _, hl, h0, h1, h2⟩ := trod_struct3 Try.underlying27 h
  rw [show Try.prog.cellsOf 27 = 3 by kernel_rfl] at hl
  match cs, hl with
  | [c0, c1, c2], _ =>
    have e0 : DataW.trod enc Try.prog w base spare held m 24 [c0] = some y0 := h0
    have e1 : DataW.trod enc Try.prog w base spare held m 25 [c1] = some y1 := h1
    have e2 : DataW.trod enc Try.prog w base spare held m 9 [c2] = some y2 := h2
    obtain ⟨k, hk, _, wk⟩ := DataW.trod_int Try.underlying24 e0
    obtain ⟨b, hb, _, wb⟩ := DataW.trod_int Try.underlying25 e1
    obtain ⟨s, hs, _, ws⟩ := DataW.trod_string Try.underlying9 e2
    simp at hk hb hs
    have bk := bounds_u8 wk
    have bb := bounds_u64 wb
    exact ⟨⟨k, b, s⟩, ⟨by show 0 ≤ k; omega, by show k < 256; omega, by show 0 ≤ b; omega, by show b < 18446744073709551616; omega, ws⟩, by rw [hk, hb, hs]⟩
instance : Inhabited Vl := ⟨⟨0, 0, ⟨#[]⟩⟩⟩
theorem open_vals (hv : Value.okWide Try.prog w r b0 22 v) (h : DataW.Trod enc Try.prog w base spare held 22 v d p) :
    ∃ ad n cap f, v = .slice ad n cap ∧ (ad = none → n = 0 ∧ cap = 0) ∧ (∀ a, ad = some a → VsAt w a n f) ∧ (∀ i, i < n → VlOk (f i)) ∧ (n = 0 ∨ ∃ el sp, d = .slice el sp ∧ el.length = n) := by
  obtain ⟨ad, n, cap, rfl⟩ := okWide_slice Try.underlying22 hv
  obtain ⟨fuel, hf⟩ := h
  rcases open_slice Try.underlying22 hf with ⟨e, _⟩ | ⟨a, len, c, m, k, D, Pl, e, hb, hl, hm, hmm, hx, hh⟩
  · simp [Value.cells] at e
    obtain ⟨rfl, rfl, rfl⟩ := e
    exact ⟨none, 0, 0, fun _ => ⟨0, 0, ⟨#[]⟩⟩, rfl, fun _ => ⟨rfl, rfl⟩, fun a e => by simp at e, fun i hi => absurd hi (Nat.not_lt_zero _), .inl rfl⟩
  · simp [Value.cells] at e
    obtain ⟨rfl, rfl, rfl⟩ := e
    rw [show Try.prog.cellsOf 27 = 3 by kernel_rfl] at hh
    have hlm : n ≤ m := by rw [hmm]; split <;> omega
    obtain ⟨f, hf⟩ := choose_lt (α := Vl) (n := n) (p := fun i t => VlOk t ∧ w.cell? (a.add (i * 3)) = some (.int .u8 t.k) ∧ w.cell? (a.add (i * 3 + 1)) = some (.int .u64 t.b) ∧ w.cell? (a.add (i * 3 + 2)) = some (.string t.s)) (fun i hi => by
      obtain ⟨cs, h1, h2⟩ := hh i (by omega)
      obtain ⟨u, hu, rfl⟩ := value_cells h2
      obtain ⟨_, _, g⟩ := World.cells?_some h1
      have g0 := g 0 (by omega)
      have g1 := g 1 (by omega)
      have g2 := g 2 (by omega)
      rw [add_off] at g0 g1 g2
      exact ⟨u, hu, by simpa using g0, by simpa using g1, by simpa using g2⟩)
    refine ⟨some a, n, cap, f, rfl, fun e => (by simp at e), ?_, fun i hi => (hf i hi).1, .inr ⟨_, _, (Prod.mk.inj hx).1, by simp⟩⟩
    intro a' e i hi
    simp at e
    subst e
    obtain ⟨_, g0, g1, g2⟩ := hf i hi
    rw [← add_off, add_pos _ 1 (by omega)] at g1
    rw [← add_off, add_pos _ 2 (by omega)] at g2
    exact ⟨g0, g1, g2⟩
end
end Go.Proofs.Ytjnegbjgogkamaa
namespace Go.Proofs.Ytjnegbjgogkamaa.LawSteps
set_option linter.unusedVariables false
open Go.RowKit Go.Proofs.Ytjnegbjgogkamaa Go.ChangeShapes Go.WideShapes Go.ChangeAt Go.Joins
theorem own : ownKnob Try.prog.godebug = none := by kernel_rfl
theorem laidOut : laidOutB Try.prog = true := by kernel_rfl
set_option maxHeartbeats 4000000 in
theorem walk0 (K now : Int) (ad : Option Addr) (cap : Nat) (w : World) (h0 : ad = none → cap = 0) :
    Calls Try.prog 3 #[.int .i64 K, .slice ad 0 cap, .int .i64 now] w fun e w' => e = .returned (.bool true) ∧ Below w.heap.size w w' := by
  go_enter Try.func3, Try.ntmps3
  go_wp2_with fail
  refine (Clone_zero ad cap _ h0).mono ?_
  rintro e w1 ⟨y, c, rfl, hb1⟩
  have B1 : Hid (Below w.heap.size w w1) := hb1
  clear hb1
  go_wp2_with fail
  refine ((stepZ K y c now).1 _).mono ?_
  rintro e w2 ⟨hb2, rfl⟩
  have B2 : Hid (Below w.heap.size w w2) := B1.out.trans (hb2.mono B1.out.size)
  clear hb2
  go_wp2_with fail
  refine ((stepZ K ad cap now).2 _).mono ?_
  rintro e w3 ⟨hb3, rfl⟩
  have B3 : Hid (Below w.heap.size w w3) := B2.out.trans (hb3.mono B2.out.size)
  clear hb3
  go_wp2_with fail
  refine (Equal_none _ _ _ _ _).mono ?_
  rintro e w4 ⟨rfl, hb4⟩
  have B4 : Hid (Below w.heap.size w w4) := B3.out.trans (hb4.mono B3.out.size)
  clear hb4
  go_wp2_with fail
  refine (Equal_none _ _ _ _ _).mono ?_
  rintro e w5 ⟨rfl, hb5⟩
  have B5 : Hid (Below w.heap.size w w5) := B4.out.trans (hb5.mono B4.out.size)
  clear hb5
  go_wp2_with fail
  go_loopw [46] (fun i wr => i = .int .i64 0 ∧ wr = w5) (fun _ _ => 0)
  case atStart => exact ⟨rfl, rfl⟩
  case round =>
    obtain ⟨rfl, rfl⟩ := hrel
    go_wp2_with fail
    refine (Equal_none _ _ _ _ _).mono ?_
    rintro e w6 ⟨rfl, hb6⟩
    have B6 : Hid (Below w.heap.size w w6) := B5.out.trans (hb6.mono B5.out.size)
    clear hb6
    go_wp2
    go_ret
    exact ⟨rfl, B6.out⟩
set_option maxHeartbeats 8000000 in
theorem walk1 (K now : Int) (a : Addr) (n cap : Nat) (f : Nat → Vl) (w : World) (hn0 : 0 < n) (hv : VsAt w a n f) (ho : ∀ i, i < n → VlOk (f i)) (hn : n * 32 ≤ 140737488351232) :
    Calls Try.prog 3 #[.int .i64 K, .slice (some a) n cap, .int .i64 now] w fun e w' => e = .returned (.bool true) ∧ Below w.heap.size w w' := by
  obtain ⟨o, hP, hR⟩ := step_both K n f now ho
  have HP : Hid (∀ (a : Addr) (cap : Nat) (w : World), VsAt w a n f → Calls Try.prog 5 #[.int .i64 K, .slice (some a) n cap, .int .i64 now] w fun e w' => Ans w w' n o e) := hP
  have HR : Hid (∀ (a : Addr) (cap : Nat) (w : World), VsAt w a n f → Calls Try.prog 6 #[.int .i64 K, .slice (some a) n cap, .int .i64 now] w fun e w' => Ans w w' n o e) := hR
  have HV : Hid (VsAt w a n f) := hv
  have za : a.block < w.heap.size := by have := (hv 0 hn0).1; have z := block_lt_of_cell this; simpa [Addr.add] using z
  clear hP hR hv ho
  have hn' : n * 32 ≤ 140737488355328 := by omega
  go_enter Try.func3, Try.ntmps3
  go_wp2_with fail
  refine (Clone_of a n cap f _ HV.out hn0 hn').mono ?_
  rintro e w1 ⟨g, c, rfl, hg, hr, hb1⟩
  have B1 : Hid (Below w.heap.size w w1) := hb1
  have G1 : Hid (Row3 w1 g n f) := hr
  have V1 : Hid (VsAt w1 a n f) := HV.out.below hb1
  clear hb1 hr
  go_wp2_with fail
  refine (HP.out ⟨g, 0, none⟩ c _ G1.out.at).mono ?_
  intro e w2 hans
  cases o with
  | none =>
    obtain ⟨hb2, rfl⟩ := hans
    have B2 : Hid (Below w1.heap.size w1 w2) := hb2
    clear hb2
    go_wp2_with fail
    refine (HR.out a cap _ (V1.out.below B2.out)).mono ?_
    rintro e w3 ⟨hb3, rfl⟩
    have B3 : Hid (Below w1.heap.size w1 w3) := B2.out.trans (hb3.mono B2.out.size)
    clear hb3
    go_wp2_with fail
    refine (Equal_none _ _ _ _ _).mono ?_
    rintro e w4 ⟨rfl, hb4⟩
    have B4 : Hid (Below w1.heap.size w1 w4) := B3.out.trans (hb4.mono B3.out.size)
    clear hb4
    go_wp2_with fail
    refine (Equal_rows _ _ _ _ _ f _ (G1.out.at.below B4.out) (V1.out.below B4.out) hn').mono ?_
    rintro e w5 ⟨rfl, hb5⟩
    have B5 : Hid (Below w1.heap.size w1 w5) := B4.out.trans (hb5.mono B4.out.size)
    clear hb5
    go_wp2_with fail
    go_loopw [46] (fun i wr => i = .int .i64 0 ∧ wr = w5) (fun _ _ => 0)
    case atStart => exact ⟨rfl, rfl⟩
    case round =>
      obtain ⟨rfl, rfl⟩ := hrel
      go_wp2_with fail
      refine (Equal_rows _ _ _ _ _ f _ (G1.out.at.below B5.out) (V1.out.below B5.out) hn').mono ?_
      rintro e w6 ⟨rfl, hb6⟩
      have B6 : Hid (Below w1.heap.size w1 w6) := B5.out.trans (hb6.mono B5.out.size)
      clear hb6
      go_wp2
      go_ret
      exact ⟨rfl, B1.out.trans (B6.out.mono B1.out.size)⟩
  | some u =>
    obtain ⟨hb2, g2, c2, rfl, hg2, hr2⟩ := hans
    have B2 : Hid (Below w1.heap.size w1 w2) := hb2
    have R2 : Hid (Row3 w2 g2 n u) := hr2
    clear hb2 hr2
    go_wp2_with fail
    refine (HR.out a cap _ (V1.out.below B2.out)).mono ?_
    rintro e w3 ⟨hb3, g3, c3, rfl, hg3, hr3⟩
    have B3 : Hid (Below w1.heap.size w1 w3) := B2.out.trans (hb3.mono B2.out.size)
    have R2' : Hid (Row3 w3 g2 n u) := R2.out.below hb3
    have R3 : Hid (Row3 w3 g3 n u) := hr3
    clear hb3 hr3
    go_wp2_with fail
    refine (Equal_rows _ _ _ _ _ u _ R2'.out.at R3.out.at hn').mono ?_
    rintro e w4 ⟨rfl, hb4⟩
    have B4 : Hid (Below w1.heap.size w1 w4) := B3.out.trans (hb4.mono B3.out.size)
    have R4 : Hid (Row3 w4 g2 n u) := R2'.out.below hb4
    clear hb4
    go_wp2_with fail
    refine (Equal_rows _ _ _ _ _ f _ (G1.out.at.below B4.out) (V1.out.below B4.out) hn').mono ?_
    rintro e w5 ⟨rfl, hb5⟩
    have B5 : Hid (Below w1.heap.size w1 w5) := B4.out.trans (hb5.mono B4.out.size)
    have R5 : Hid (Row3 w5 g2 n u) := R4.out.below hb5
    clear hb5
    go_wp2_with fail
    go_loopw [46] (fun i wr => ∃ k : Nat, k ≤ n ∧ i = .int .i64 k ∧ (∃ A, wr.heap[g2]? = some (.cells A 27 (0, 0)) ∧ n * 3 ≤ A.size) ∧ Below w1.heap.size w1 wr) (fun i _ => n - (intOf i).toNat)
    case atStart =>
      obtain ⟨A, h1, h2, _⟩ := R5.out
      exact ⟨0, Nat.zero_le _, rfl, ⟨A, h1, h2⟩, B5.out⟩
    case round =>
      obtain ⟨k, hk, rfl, ⟨A, hA, hs⟩, hb⟩ := hrel
      have HB : Hid (Below w1.heap.size w1 wr) := hb
      have HAA : Hid (wr.heap[g2]? = some (.cells A 27 (0, 0))) := hA
      by_cases hlt : k < n
      · obtain ⟨x, hx⟩ : ∃ x, A[k * 3 + 1]? = some x := ⟨_, Array.getElem?_eq_getElem (by omega)⟩
        have c1 : wr.cell? ⟨g2, k * 3 + 1, none⟩ = some x := by simp only [World.cell?, hA]; exact hx
        have f1 : wr.frozen? ⟨g2, k * 3 + 1, none⟩ = false := by simp [World.frozen?, hA]
        have z2 : g2 < wr.heap.size := lt_of_block hA
        have hlt' : (k : Int) < n := by omega
        clear hA hb
        go_wp2
        refine ⟨⟨k + 1, by omega, by go_num, ⟨_, heap_setCell_same wr g2 (k * 3 + 1) A 27 (.int .u64 99) HAA.out, by simpa using hs⟩, ?_⟩, by simp [intOf]; omega⟩
        exact ⟨HB.out.os, HB.out.tape, HB.out.output, by have := HB.out.size; simpa [World.setCell] using this, fun q hq => by rw [Below.heap_setCell _ _ _ _ (show q ≠ g2 by omega)]; exact HB.out.block q hq⟩
      · have ek : k = n := by omega
        clear hA hb
        go_wp2_with fail
        refine (Equal_rows _ _ _ _ _ f _ (G1.out.at.below HB.out) (V1.out.below HB.out) hn').mono ?_
        rintro e w6 ⟨rfl, hb6⟩
        have B6 : Hid (Below w1.heap.size w1 w6) := HB.out.trans (hb6.mono HB.out.size)
        clear hb6
        go_wp2
        go_ret
        exact ⟨rfl, B1.out.trans (B6.out.mono B1.out.size)⟩
theorem walk (K : Int) (ad : Option Addr) (n cap : Nat) (f : Nat → Vl) (now : Int) (w : World) (h0 : ad = none → n = 0 ∧ cap = 0) (hv : ∀ a, ad = some a → VsAt w a n f) (ho : ∀ i, i < n → VlOk (f i)) (hn : n * 32 ≤ 140737488351232) :
    Calls Try.prog 3 #[.int .i64 K, .slice ad n cap, .int .i64 now] w fun e w' => e = .returned (.bool true) ∧ Below w.heap.size w w' := by
  by_cases hz : n = 0
  · subst hz; exact walk0 K now ad cap w (fun h => (h0 h).2)
  · cases ad with
    | none => exact absurd (h0 rfl).1 hz
    | some a => exact walk1 K now a n cap f w (by omega) (hv a rfl) ho hn

set_option maxRecDepth 100000 in
theorem lifted (os : Os) (started : os.Started) (H : Type) (enc : TypeId × Value → H) :
    ReturnsInHanded {} Try.checked os 3 .any (Rows.blocksStepsSpec.pre6 enc Try.prog Try.f3 Rows.blocksStepsRow.domain false) (Rows.blocksStepsSpec.post enc Try.prog Try.f3 false true false false) := by
  refine returnsInHanded_of_change_sized (C := Try.checked) own started (by kernel_rfl) Try.func3
    (ChangeSpec.witness6 (enc := enc) (C := Try.checked) false ⟨#[], #[.int .i64 0, .slice none 0 0, .int .i64 0], []⟩ 8 (by kernel_rfl) (by kernel_rfl) (by kernel_rfl) (by kernel_rfl)) ?_
  intro W base args ds gs before hval0 hW _ hsz0 _
  have hval : ∀ (j : Nat) t v, Try.f3.params[j]? = some t → args[j]? = some v → Value.okWide Try.prog W .any base t v := hval0
  have hW' := hW
  obtain ⟨p, q, hA0, hV, rfl, hfz, hnd⟩ := hW
  have hA : DataW.TrodAll enc Try.prog W 0 (fun _ => true) true Try.f3.params.toList args.toList ds p := hA0
  have hsz : (DataW.weightsEach Try.prog (Try.f3.params.toList ++ Rows.blocksStepsSpec.plain.varTypes Try.prog) (ds ++ gs)).all (· ≤ reachBytes) = true := hsz0
  rw [Try.params3] at hA hval hsz
  obtain ⟨v0, vs0, d0, ds0, p0, q0, hargs, rfl, rfl, h0, r0⟩ := trodAll_cons hA
  obtain ⟨v1, vs1, d1, ds1, p1, q1, rfl, rfl, rfl, h1, r1⟩ := trodAll_cons r0
  obtain ⟨v2, vs2, d2, ds2, p2, q2, rfl, rfl, rfl, h2, r2⟩ := trodAll_cons r1
  obtain ⟨rfl, rfl, rfl⟩ := trodAll_nil r2
  obtain rfl : args = #[v0, v1, v2] := by cases args; simp_all
  obtain ⟨rfl, rfl⟩ := trodVars_none hV
  obtain ⟨K, rfl, rfl, rfl, wK⟩ := open_int Try.underlying3 (hval 0 3 v0 rfl rfl) h0
  have bK := bounds_i64 wK
  have k1 := h1
  have lt1 : ∀ x ∈ p1, x.block < W.heap.size := by obtain ⟨m, hm⟩ := k1; exact DataW.trod_lt m _ _ _ hm
  obtain ⟨ad, n, cap, f, rfl, zad, tf, uf, sn⟩ := open_vals (hval 1 22 v1 rfl rfl) h1
  have ln : n * 32 ≤ 140737488351232 := by
    rcases sn with rfl | ⟨el, sp, e, hl⟩
    · omega
    · have := sized_slice hsz (j := 1) (t := 22) (e := 27) rfl (by rw [e]; rfl) Try.underlying22
      rw [show Try.prog.bytesOf 27 = 32 by kernel_rfl, hl] at this
      simp only [reachBytes] at this
      omega
  obtain ⟨now, rfl, rfl, rfl, wnow⟩ := open_int Try.underlying3 (hval 2 3 v2 rfl rfl) h2
  have bnow := bounds_i64 wnow
  clear hA0 hval0
  refine (walk K ad n cap f now W zad tf uf ln).mono fun e W' ⟨he, bel⟩ => ?_
  subst he
  exact ⟨_, rfl, _, _, _, [], _, [], hW', trodAll_mk1 (shut_bool Try.underlying4 _), (trodAll_cons_mk (shut_int Try.underlying3 wK) (trodAll_cons_mk (Below.trod laidOut (by kernel_rfl) (of_decide_eq_true (by kernel_rfl)) k1 bel lt1) (trodAll_cons_mk (shut_int Try.underlying3 wnow) trodAll_mk0))), rfl, bel.frame _, fun h => by cases h⟩
end Go.Proofs.Ytjnegbjgogkamaa.LawSteps
namespace Go.Proofs.Ytjnegbjgogkamaa
/-- THE STATEMENT. -/
theorem blocksSteps_proved : Rows.BlocksStepsSaid :=
  OpenClaim.holds_of_wide 3 Try.f3 rfl rfl rfl rfl rfl rfl rfl ⟨rfl, rfl, rfl, rfl, rfl⟩ rfl rfl rfl rfl rfl (by kernel_rfl) Try.func3 (by kernel_rfl)
    (of_decide_eq_true (by kernel_rfl)) (by unfold Func.isWrapper; first | (rw [if_pos (by decide +kernel)]; kernel_rfl) | (rw [if_neg (by decide +kernel)]; exact ⟨rfl, rfl⟩))
    (fun os started H enc _ => LawSteps.lifted os started H enc)
end Go.Proofs.Ytjnegbjgogkamaa
