/- What the document's Step answers for block 9; no statement of the seat is proved here. -/
import Derived.Test.YtjnegbjgogkamaaDoorRfG
import Derived.Test.YtjnegbjgogkamaaDoorRfE
import Derived.Test.YtjnegbjgogkamaaDoorRfL
import Derived.Test.YtjnegbjgogkamaaDoorRfN
import Derived.Test.YtjnegbjgogkamaaDoorBlkX
import Derived.Deep.DeepCutAuto
namespace Go.Proofs.YtjnegbjgogkamaaDoor
set_option linter.unusedVariables false
open Go.RowKit
set_option maxRecDepth 20000 in
set_option maxHeartbeats 16000000 in
theorem time_9n (gn gi cn ci : Nat) (now a b c d m s : Int) (w : World) (h : SA w gn gi 6 nLT [a, b, c, d, m, s]) (ha : B01 a) (hc : B01 c) (hm : B01 m) (hd : -9223372036854775808 ≤ d ∧ d < 9223372036854775808) (hs : -9223372036854775808 ≤ s ∧ s < 9223372036854775808) (hn : 0 ≤ now ∧ now ≤ 4611686018427387904) (hb : b < 0) :
    Calls Tryd.prog 39 #[SV gn gi 6 cn ci, .int .i64 9, .int .i64 now] w fun e w' => e = .returned (.tuple #[]) ∧ Ws w w' gi (nxt 9 now [a, b, c, d, m, s]) := by
  have HA : Hid (B01 a) := ha
  have HC : Hid (B01 c) := hc
  have HM : Hid (B01 m) := hm
  obtain ⟨n0, n1⟩ := hn
  obtain ⟨s0, s1⟩ := hs
  have sg : ∀ x, 0 ≤ sinc now x := by intro x; unfold sinc; split <;> omega
  have SG : Hid (∀ x, 0 ≤ sinc now x) := sg
  clear ha hc hm sg
  have SP : Hid (spn b = 0) := by show _ = _; unfold spn; rw [if_pos hb]
  rcases HA.out with rfl | rfl
  · have S0 : Hid (SA w gn gi 6 nLT _) := h
    clear h
    go_enter Tryd.func39, Tryd.ntmps39
    go_wp2_with fail
    have S : Hid (BX w (w.alloc (.cells #[.slice (some ⟨gn, 0, none⟩) 6 cn, .slice (some ⟨gi, 0, none⟩) 6 ci] 71)) w.heap.size gn gi 6 cn ci nLT _) := BX.new cn ci S0.out
    have q0 := S.out.c0
    have q1 := S.out.c1
    generalize w.alloc (.cells #[.slice (some ⟨gn, 0, none⟩) 6 cn, .slice (some ⟨gi, 0, none⟩) 6 ci] 71) = W0 at S q0 q1 ⊢
    generalize w.heap.size = b0 at S q0 q1 ⊢
    go_wp2_with (first | (go_at_call_of 60 (Value.string ⟨#[73, 78]⟩); (first | refine (isT0 (by first | exact S.out.sa | exact S.out.drew.sa) false rfl).mono ?_ | refine (isT0 (by first | exact S.out.sa | exact S.out.drew.sa) true rfl).mono ?_ | refine (isT0 (by first | exact S.out.sa | exact S.out.drew.sa) false (by rw [D.out]; rfl)).mono ?_ | refine (isT0 (by first | exact S.out.sa | exact S.out.drew.sa) true (by rw [D.out]; rfl)).mono ?_ | refine (isT0 (by first | exact S.out.sa | exact S.out.drew.sa) _ rfl).mono ?_); rintro e w1 ⟨rfl, hb⟩; have S : Hid (BX w w1 b0 gn gi 6 cn ci nLT _) := (by first | exact S.out.below hb | exact S.out.drew.below hb); clear hb; (try clear q0 q1); have q0 := S.out.c0; have q1 := S.out.c1) | (go_at_call_of 60 (Value.string ⟨#[81]⟩); (first | refine (isT2 (by first | exact S.out.sa | exact S.out.drew.sa) false rfl).mono ?_ | refine (isT2 (by first | exact S.out.sa | exact S.out.drew.sa) true rfl).mono ?_ | refine (isT2 (by first | exact S.out.sa | exact S.out.drew.sa) false (by rw [D.out]; rfl)).mono ?_ | refine (isT2 (by first | exact S.out.sa | exact S.out.drew.sa) true (by rw [D.out]; rfl)).mono ?_ | refine (isT2 (by first | exact S.out.sa | exact S.out.drew.sa) _ rfl).mono ?_); rintro e w1 ⟨rfl, hb⟩; have S : Hid (BX w w1 b0 gn gi 6 cn ci nLT _) := (by first | exact S.out.below hb | exact S.out.drew.below hb); clear hb; (try clear q0 q1); have q0 := S.out.c0; have q1 := S.out.c1) | (go_at_call_of 60 (Value.string ⟨#[77]⟩); (first | refine (isT4 (by first | exact S.out.sa | exact S.out.drew.sa) false rfl).mono ?_ | refine (isT4 (by first | exact S.out.sa | exact S.out.drew.sa) true rfl).mono ?_ | refine (isT4 (by first | exact S.out.sa | exact S.out.drew.sa) false (by rw [D.out]; rfl)).mono ?_ | refine (isT4 (by first | exact S.out.sa | exact S.out.drew.sa) true (by rw [D.out]; rfl)).mono ?_ | refine (isT4 (by first | exact S.out.sa | exact S.out.drew.sa) _ rfl).mono ?_); rintro e w1 ⟨rfl, hb⟩; have S : Hid (BX w w1 b0 gn gi 6 cn ci nLT _) := (by first | exact S.out.below hb | exact S.out.drew.below hb); clear hb; (try clear q0 q1); have q0 := S.out.c0; have q1 := S.out.c1) | (go_at_call_of 61 (Value.string ⟨#[80, 84]⟩); refine (getT1 (by first | exact S.out.sa | exact S.out.drew.sa)).mono ?_; rintro e w1 ⟨rfl, hb⟩; have S : Hid (BX w w1 b0 gn gi 6 cn ci nLT _) := (by first | exact S.out.below hb | exact S.out.drew.below hb); clear hb; (try clear q0 q1); have q0 := S.out.c0; have q1 := S.out.c1) | (go_at_call_of 63 (Value.string ⟨#[69, 84]⟩); refine (putT3 (by first | exact S.out.sa | exact S.out.drew.sa) _).mono ?_; rintro e w1 ⟨rfl, hb⟩; have S : Hid (BX w w1 b0 gn gi 6 cn ci nLT _) := (by first | exact S.out.put hb rfl | exact S.out.drew.put hb rfl); clear hb; (try clear q0 q1); have q0 := S.out.c0; have q1 := S.out.c1) | (go_at_call_of 63 (Value.string ⟨#[83]⟩); refine (putT5 (by first | exact S.out.sa | exact S.out.drew.sa) _).mono ?_; rintro e w1 ⟨rfl, hb⟩; have S : Hid (BX w w1 b0 gn gi 6 cn ci nLT _) := (by first | exact S.out.put hb rfl | exact S.out.drew.put hb rfl); clear hb; (try clear q0 q1); have q0 := S.out.c0; have q1 := S.out.c1) | (go_at_call_of 59 (Value.string ⟨#[81]⟩); refine (sayT2 (by first | exact S.out.sa | exact S.out.drew.sa) _).mono ?_; rintro e w1 ⟨rfl, hb⟩; have S : Hid (BX w w1 b0 gn gi 6 cn ci nLT _) := (by first | exact S.out.put hb rfl | exact S.out.drew.put hb rfl); clear hb; (try clear q0 q1); have q0 := S.out.c0; have q1 := S.out.c1) | (go_at_call_of 59 (Value.string ⟨#[77]⟩); refine (sayT4 (by first | exact S.out.sa | exact S.out.drew.sa) _).mono ?_; rintro e w1 ⟨rfl, hb⟩; have S : Hid (BX w w1 b0 gn gi 6 cn ci nLT _) := (by first | exact S.out.put hb rfl | exact S.out.drew.put hb rfl); clear hb; (try clear q0 q1); have q0 := S.out.c0; have q1 := S.out.c1) | (go_at_call 64; refine (spent_of gn gi cn ci _ _ _ _ _ _ _ _ _ (by first | exact S.out.sa | exact S.out.drew.sa)).mono ?_; rintro e w1 ⟨rfl, hb⟩; (first | rw [if_pos hx.out] at hb | rw [if_neg hx.out] at hb | rw [if_neg (Int.not_le.2 hx.out)] at hb); have S : Hid (BX w w1 b0 gn gi 6 cn ci nLT _) := (by first | exact S.out.put hb rfl | exact S.out.drew.put hb rfl); clear hb; (try clear q0 q1); have q0 := S.out.c0; have q1 := S.out.c1) | (go_at_call 62; (first | refine (rises_r (nm := ⟨#[73, 78]⟩) (nn := ⟨#[77]⟩) (i := 0) (j := 4) (by first | exact S.out.sa | exact S.out.drew.sa) (at_b rfl) rfl (at_b rfl) rfl false rfl).mono ?_ | refine (rises_r (nm := ⟨#[73, 78]⟩) (nn := ⟨#[77]⟩) (i := 0) (j := 4) (by first | exact S.out.sa | exact S.out.drew.sa) (at_b rfl) rfl (at_b rfl) rfl true rfl).mono ?_); rintro e w1 ⟨rfl, hb⟩; have S : Hid (BX w w1 b0 gn gi 6 cn ci nLT _) := (by first | exact S.out.below hb | exact S.out.drew.below hb); clear hb; (try clear q0 q1); have q0 := S.out.c0; have q1 := S.out.c1) | (go_at_call 65; refine (since_of gn gi cn ci now _ _ _ _ _ _ _ (by first | exact S.out.sa | exact S.out.drew.sa) (by omega) (by omega)).mono ?_; rintro e w1 ⟨rfl, hb⟩; have S : Hid (BX w w1 b0 gn gi 6 cn ci nLT _) := (by first | exact S.out.below hb | exact S.out.drew.below hb); clear hb; (try clear q0 q1); have q0 := S.out.c0; have q1 := S.out.c1))
    refine wp_region_last _ (by kernel_rfl) (by kernel_rfl) rfl ?_
    intro cx
    simp only [List.dropLast]
    have zb := S.out.bl
    repeat (first | go_big_quiet_skip | (go_big_quiet_want; go_big_quiet_op; first | go_big_quiet_on | (refine ⟨_, fun _ => rfl, ?_⟩; go_big_quiet_on) | go_big_quiet_call (first | (go_at_call_of 60 (Value.string ⟨#[73, 78]⟩); first | exact calls_sub (isT0 (S.out.sa.below (Sub.h _)) false rfl) | exact calls_sub (isT0 (S.out.sa.below (Sub.h _)) true rfl) | exact calls_sub (isT0 (S.out.sa.below (Sub.h _)) false (by rw [D.out]; rfl)) | exact calls_sub (isT0 (S.out.sa.below (Sub.h _)) true (by rw [D.out]; rfl)) | exact calls_sub (isT0 (S.out.sa.below (Sub.h _)) _ rfl)) | (go_at_call_of 60 (Value.string ⟨#[81]⟩); first | exact calls_sub (isT2 (S.out.sa.below (Sub.h _)) false rfl) | exact calls_sub (isT2 (S.out.sa.below (Sub.h _)) true rfl) | exact calls_sub (isT2 (S.out.sa.below (Sub.h _)) false (by rw [D.out]; rfl)) | exact calls_sub (isT2 (S.out.sa.below (Sub.h _)) true (by rw [D.out]; rfl)) | exact calls_sub (isT2 (S.out.sa.below (Sub.h _)) _ rfl)) | (go_at_call_of 60 (Value.string ⟨#[77]⟩); first | exact calls_sub (isT4 (S.out.sa.below (Sub.h _)) false rfl) | exact calls_sub (isT4 (S.out.sa.below (Sub.h _)) true rfl) | exact calls_sub (isT4 (S.out.sa.below (Sub.h _)) false (by rw [D.out]; rfl)) | exact calls_sub (isT4 (S.out.sa.below (Sub.h _)) true (by rw [D.out]; rfl)) | exact calls_sub (isT4 (S.out.sa.below (Sub.h _)) _ rfl)) | (go_at_call_of 61 (Value.string ⟨#[80, 84]⟩); exact calls_sub (getT1 (S.out.sa.below (Sub.h _)))) | (go_at_call 65; exact calls_sub (since_of gn gi cn ci now _ _ _ _ _ _ _ (S.out.sa.below (Sub.h _)) (by omega) (by omega))))))
    refine wpQuiet_nil ?_
    rintro _ ⟨y, rfl⟩
    clear cx
    have S : Hid (BX w y.w b0 gn gi 6 cn ci nLT _) := S.out.below y.h
    clear q0 q1 zb
    have q0 := S.out.c0
    have q1 := S.out.c1
    go_wp2_with (first | (go_at_call_of 60 (Value.string ⟨#[73, 78]⟩); (first | refine (isT0 (by first | exact S.out.sa | exact S.out.drew.sa) false rfl).mono ?_ | refine (isT0 (by first | exact S.out.sa | exact S.out.drew.sa) true rfl).mono ?_ | refine (isT0 (by first | exact S.out.sa | exact S.out.drew.sa) false (by rw [D.out]; rfl)).mono ?_ | refine (isT0 (by first | exact S.out.sa | exact S.out.drew.sa) true (by rw [D.out]; rfl)).mono ?_ | refine (isT0 (by first | exact S.out.sa | exact S.out.drew.sa) _ rfl).mono ?_); rintro e w1 ⟨rfl, hb⟩; have S : Hid (BX w w1 b0 gn gi 6 cn ci nLT _) := (by first | exact S.out.below hb | exact S.out.drew.below hb); clear hb; (try clear q0 q1); have q0 := S.out.c0; have q1 := S.out.c1) | (go_at_call_of 60 (Value.string ⟨#[81]⟩); (first | refine (isT2 (by first | exact S.out.sa | exact S.out.drew.sa) false rfl).mono ?_ | refine (isT2 (by first | exact S.out.sa | exact S.out.drew.sa) true rfl).mono ?_ | refine (isT2 (by first | exact S.out.sa | exact S.out.drew.sa) false (by rw [D.out]; rfl)).mono ?_ | refine (isT2 (by first | exact S.out.sa | exact S.out.drew.sa) true (by rw [D.out]; rfl)).mono ?_ | refine (isT2 (by first | exact S.out.sa | exact S.out.drew.sa) _ rfl).mono ?_); rintro e w1 ⟨rfl, hb⟩; have S : Hid (BX w w1 b0 gn gi 6 cn ci nLT _) := (by first | exact S.out.below hb | exact S.out.drew.below hb); clear hb; (try clear q0 q1); have q0 := S.out.c0; have q1 := S.out.c1) | (go_at_call_of 60 (Value.string ⟨#[77]⟩); (first | refine (isT4 (by first | exact S.out.sa | exact S.out.drew.sa) false rfl).mono ?_ | refine (isT4 (by first | exact S.out.sa | exact S.out.drew.sa) true rfl).mono ?_ | refine (isT4 (by first | exact S.out.sa | exact S.out.drew.sa) false (by rw [D.out]; rfl)).mono ?_ | refine (isT4 (by first | exact S.out.sa | exact S.out.drew.sa) true (by rw [D.out]; rfl)).mono ?_ | refine (isT4 (by first | exact S.out.sa | exact S.out.drew.sa) _ rfl).mono ?_); rintro e w1 ⟨rfl, hb⟩; have S : Hid (BX w w1 b0 gn gi 6 cn ci nLT _) := (by first | exact S.out.below hb | exact S.out.drew.below hb); clear hb; (try clear q0 q1); have q0 := S.out.c0; have q1 := S.out.c1) | (go_at_call_of 61 (Value.string ⟨#[80, 84]⟩); refine (getT1 (by first | exact S.out.sa | exact S.out.drew.sa)).mono ?_; rintro e w1 ⟨rfl, hb⟩; have S : Hid (BX w w1 b0 gn gi 6 cn ci nLT _) := (by first | exact S.out.below hb | exact S.out.drew.below hb); clear hb; (try clear q0 q1); have q0 := S.out.c0; have q1 := S.out.c1) | (go_at_call_of 63 (Value.string ⟨#[69, 84]⟩); refine (putT3 (by first | exact S.out.sa | exact S.out.drew.sa) _).mono ?_; rintro e w1 ⟨rfl, hb⟩; have S : Hid (BX w w1 b0 gn gi 6 cn ci nLT _) := (by first | exact S.out.put hb rfl | exact S.out.drew.put hb rfl); clear hb; (try clear q0 q1); have q0 := S.out.c0; have q1 := S.out.c1) | (go_at_call_of 63 (Value.string ⟨#[83]⟩); refine (putT5 (by first | exact S.out.sa | exact S.out.drew.sa) _).mono ?_; rintro e w1 ⟨rfl, hb⟩; have S : Hid (BX w w1 b0 gn gi 6 cn ci nLT _) := (by first | exact S.out.put hb rfl | exact S.out.drew.put hb rfl); clear hb; (try clear q0 q1); have q0 := S.out.c0; have q1 := S.out.c1) | (go_at_call_of 59 (Value.string ⟨#[81]⟩); refine (sayT2 (by first | exact S.out.sa | exact S.out.drew.sa) _).mono ?_; rintro e w1 ⟨rfl, hb⟩; have S : Hid (BX w w1 b0 gn gi 6 cn ci nLT _) := (by first | exact S.out.put hb rfl | exact S.out.drew.put hb rfl); clear hb; (try clear q0 q1); have q0 := S.out.c0; have q1 := S.out.c1) | (go_at_call_of 59 (Value.string ⟨#[77]⟩); refine (sayT4 (by first | exact S.out.sa | exact S.out.drew.sa) _).mono ?_; rintro e w1 ⟨rfl, hb⟩; have S : Hid (BX w w1 b0 gn gi 6 cn ci nLT _) := (by first | exact S.out.put hb rfl | exact S.out.drew.put hb rfl); clear hb; (try clear q0 q1); have q0 := S.out.c0; have q1 := S.out.c1) | (go_at_call 64; refine (spent_of gn gi cn ci _ _ _ _ _ _ _ _ _ (by first | exact S.out.sa | exact S.out.drew.sa)).mono ?_; rintro e w1 ⟨rfl, hb⟩; (first | rw [if_pos hx.out] at hb | rw [if_neg hx.out] at hb | rw [if_neg (Int.not_le.2 hx.out)] at hb); have S : Hid (BX w w1 b0 gn gi 6 cn ci nLT _) := (by first | exact S.out.put hb rfl | exact S.out.drew.put hb rfl); clear hb; (try clear q0 q1); have q0 := S.out.c0; have q1 := S.out.c1) | (go_at_call 62; (first | refine (rises_r (nm := ⟨#[73, 78]⟩) (nn := ⟨#[77]⟩) (i := 0) (j := 4) (by first | exact S.out.sa | exact S.out.drew.sa) (at_b rfl) rfl (at_b rfl) rfl false rfl).mono ?_ | refine (rises_r (nm := ⟨#[73, 78]⟩) (nn := ⟨#[77]⟩) (i := 0) (j := 4) (by first | exact S.out.sa | exact S.out.drew.sa) (at_b rfl) rfl (at_b rfl) rfl true rfl).mono ?_); rintro e w1 ⟨rfl, hb⟩; have S : Hid (BX w w1 b0 gn gi 6 cn ci nLT _) := (by first | exact S.out.below hb | exact S.out.drew.below hb); clear hb; (try clear q0 q1); have q0 := S.out.c0; have q1 := S.out.c1) | (go_at_call 65; refine (since_of gn gi cn ci now _ _ _ _ _ _ _ (by first | exact S.out.sa | exact S.out.drew.sa) (by omega) (by omega)).mono ?_; rintro e w1 ⟨rfl, hb⟩; have S : Hid (BX w w1 b0 gn gi 6 cn ci nLT _) := (by first | exact S.out.below hb | exact S.out.drew.below hb); clear hb; (try clear q0 q1); have q0 := S.out.c0; have q1 := S.out.c1))
    go_end0
    refine ⟨rfl, S.out.ws.to ?_⟩
    have sp := SP.out
    unfold nxt
    (try unfold pQ)
    (try unfold pE)
    (try unfold els)
    (try unfold tN)
    first | (simp [*]; done) | (simp [*]; omega)
  · rcases HM.out with rfl | rfl
    have hx : Hid (0 ≤ sinc now now) := SG.out _
    have D : Hid (decide (0 ≤ sinc now now) = true) := decide_eq_true hx.out
    rotate_left 1
    have hx : Hid (0 ≤ sinc now s) := SG.out _
    have D : Hid (decide (0 ≤ sinc now s) = true) := decide_eq_true hx.out
    rotate_left 1
    all_goals
      have S0 : Hid (SA w gn gi 6 nLT _) := h
      clear h
      go_enter Tryd.func39, Tryd.ntmps39
      go_wp2_with fail
      have S : Hid (BX w (w.alloc (.cells #[.slice (some ⟨gn, 0, none⟩) 6 cn, .slice (some ⟨gi, 0, none⟩) 6 ci] 71)) w.heap.size gn gi 6 cn ci nLT _) := BX.new cn ci S0.out
      have q0 := S.out.c0
      have q1 := S.out.c1
      generalize w.alloc (.cells #[.slice (some ⟨gn, 0, none⟩) 6 cn, .slice (some ⟨gi, 0, none⟩) 6 ci] 71) = W0 at S q0 q1 ⊢
      generalize w.heap.size = b0 at S q0 q1 ⊢
      go_wp2_with (first | (go_at_call_of 60 (Value.string ⟨#[73, 78]⟩); (first | refine (isT0 (by first | exact S.out.sa | exact S.out.drew.sa) false rfl).mono ?_ | refine (isT0 (by first | exact S.out.sa | exact S.out.drew.sa) true rfl).mono ?_ | refine (isT0 (by first | exact S.out.sa | exact S.out.drew.sa) false (by rw [D.out]; rfl)).mono ?_ | refine (isT0 (by first | exact S.out.sa | exact S.out.drew.sa) true (by rw [D.out]; rfl)).mono ?_ | refine (isT0 (by first | exact S.out.sa | exact S.out.drew.sa) _ rfl).mono ?_); rintro e w1 ⟨rfl, hb⟩; have S : Hid (BX w w1 b0 gn gi 6 cn ci nLT _) := (by first | exact S.out.below hb | exact S.out.drew.below hb); clear hb; (try clear q0 q1); have q0 := S.out.c0; have q1 := S.out.c1) | (go_at_call_of 60 (Value.string ⟨#[81]⟩); (first | refine (isT2 (by first | exact S.out.sa | exact S.out.drew.sa) false rfl).mono ?_ | refine (isT2 (by first | exact S.out.sa | exact S.out.drew.sa) true rfl).mono ?_ | refine (isT2 (by first | exact S.out.sa | exact S.out.drew.sa) false (by rw [D.out]; rfl)).mono ?_ | refine (isT2 (by first | exact S.out.sa | exact S.out.drew.sa) true (by rw [D.out]; rfl)).mono ?_ | refine (isT2 (by first | exact S.out.sa | exact S.out.drew.sa) _ rfl).mono ?_); rintro e w1 ⟨rfl, hb⟩; have S : Hid (BX w w1 b0 gn gi 6 cn ci nLT _) := (by first | exact S.out.below hb | exact S.out.drew.below hb); clear hb; (try clear q0 q1); have q0 := S.out.c0; have q1 := S.out.c1) | (go_at_call_of 60 (Value.string ⟨#[77]⟩); (first | refine (isT4 (by first | exact S.out.sa | exact S.out.drew.sa) false rfl).mono ?_ | refine (isT4 (by first | exact S.out.sa | exact S.out.drew.sa) true rfl).mono ?_ | refine (isT4 (by first | exact S.out.sa | exact S.out.drew.sa) false (by rw [D.out]; rfl)).mono ?_ | refine (isT4 (by first | exact S.out.sa | exact S.out.drew.sa) true (by rw [D.out]; rfl)).mono ?_ | refine (isT4 (by first | exact S.out.sa | exact S.out.drew.sa) _ rfl).mono ?_); rintro e w1 ⟨rfl, hb⟩; have S : Hid (BX w w1 b0 gn gi 6 cn ci nLT _) := (by first | exact S.out.below hb | exact S.out.drew.below hb); clear hb; (try clear q0 q1); have q0 := S.out.c0; have q1 := S.out.c1) | (go_at_call_of 61 (Value.string ⟨#[80, 84]⟩); refine (getT1 (by first | exact S.out.sa | exact S.out.drew.sa)).mono ?_; rintro e w1 ⟨rfl, hb⟩; have S : Hid (BX w w1 b0 gn gi 6 cn ci nLT _) := (by first | exact S.out.below hb | exact S.out.drew.below hb); clear hb; (try clear q0 q1); have q0 := S.out.c0; have q1 := S.out.c1) | (go_at_call_of 63 (Value.string ⟨#[69, 84]⟩); refine (putT3 (by first | exact S.out.sa | exact S.out.drew.sa) _).mono ?_; rintro e w1 ⟨rfl, hb⟩; have S : Hid (BX w w1 b0 gn gi 6 cn ci nLT _) := (by first | exact S.out.put hb rfl | exact S.out.drew.put hb rfl); clear hb; (try clear q0 q1); have q0 := S.out.c0; have q1 := S.out.c1) | (go_at_call_of 63 (Value.string ⟨#[83]⟩); refine (putT5 (by first | exact S.out.sa | exact S.out.drew.sa) _).mono ?_; rintro e w1 ⟨rfl, hb⟩; have S : Hid (BX w w1 b0 gn gi 6 cn ci nLT _) := (by first | exact S.out.put hb rfl | exact S.out.drew.put hb rfl); clear hb; (try clear q0 q1); have q0 := S.out.c0; have q1 := S.out.c1) | (go_at_call_of 59 (Value.string ⟨#[81]⟩); refine (sayT2 (by first | exact S.out.sa | exact S.out.drew.sa) _).mono ?_; rintro e w1 ⟨rfl, hb⟩; have S : Hid (BX w w1 b0 gn gi 6 cn ci nLT _) := (by first | exact S.out.put hb rfl | exact S.out.drew.put hb rfl); clear hb; (try clear q0 q1); have q0 := S.out.c0; have q1 := S.out.c1) | (go_at_call_of 59 (Value.string ⟨#[77]⟩); refine (sayT4 (by first | exact S.out.sa | exact S.out.drew.sa) _).mono ?_; rintro e w1 ⟨rfl, hb⟩; have S : Hid (BX w w1 b0 gn gi 6 cn ci nLT _) := (by first | exact S.out.put hb rfl | exact S.out.drew.put hb rfl); clear hb; (try clear q0 q1); have q0 := S.out.c0; have q1 := S.out.c1) | (go_at_call 64; refine (spent_of gn gi cn ci _ _ _ _ _ _ _ _ _ (by first | exact S.out.sa | exact S.out.drew.sa)).mono ?_; rintro e w1 ⟨rfl, hb⟩; (first | rw [if_pos hx.out] at hb | rw [if_neg hx.out] at hb | rw [if_neg (Int.not_le.2 hx.out)] at hb); have S : Hid (BX w w1 b0 gn gi 6 cn ci nLT _) := (by first | exact S.out.put hb rfl | exact S.out.drew.put hb rfl); clear hb; (try clear q0 q1); have q0 := S.out.c0; have q1 := S.out.c1) | (go_at_call 62; (first | refine (rises_r (nm := ⟨#[73, 78]⟩) (nn := ⟨#[77]⟩) (i := 0) (j := 4) (by first | exact S.out.sa | exact S.out.drew.sa) (at_b rfl) rfl (at_b rfl) rfl false rfl).mono ?_ | refine (rises_r (nm := ⟨#[73, 78]⟩) (nn := ⟨#[77]⟩) (i := 0) (j := 4) (by first | exact S.out.sa | exact S.out.drew.sa) (at_b rfl) rfl (at_b rfl) rfl true rfl).mono ?_); rintro e w1 ⟨rfl, hb⟩; have S : Hid (BX w w1 b0 gn gi 6 cn ci nLT _) := (by first | exact S.out.below hb | exact S.out.drew.below hb); clear hb; (try clear q0 q1); have q0 := S.out.c0; have q1 := S.out.c1) | (go_at_call 65; refine (since_of gn gi cn ci now _ _ _ _ _ _ _ (by first | exact S.out.sa | exact S.out.drew.sa) (by omega) (by omega)).mono ?_; rintro e w1 ⟨rfl, hb⟩; have S : Hid (BX w w1 b0 gn gi 6 cn ci nLT _) := (by first | exact S.out.below hb | exact S.out.drew.below hb); clear hb; (try clear q0 q1); have q0 := S.out.c0; have q1 := S.out.c1))
      refine wp_region_last _ (by kernel_rfl) (by kernel_rfl) rfl ?_
      intro cx
      simp only [List.dropLast]
      have zb := S.out.bl
      repeat (first | go_big_quiet_skip | (go_big_quiet_want; go_big_quiet_op; first | go_big_quiet_on | (refine ⟨_, fun _ => rfl, ?_⟩; go_big_quiet_on) | go_big_quiet_call (first | (go_at_call_of 60 (Value.string ⟨#[73, 78]⟩); first | exact calls_sub (isT0 (S.out.sa.below (Sub.h _)) false rfl) | exact calls_sub (isT0 (S.out.sa.below (Sub.h _)) true rfl) | exact calls_sub (isT0 (S.out.sa.below (Sub.h _)) false (by rw [D.out]; rfl)) | exact calls_sub (isT0 (S.out.sa.below (Sub.h _)) true (by rw [D.out]; rfl)) | exact calls_sub (isT0 (S.out.sa.below (Sub.h _)) _ rfl)) | (go_at_call_of 60 (Value.string ⟨#[81]⟩); first | exact calls_sub (isT2 (S.out.sa.below (Sub.h _)) false rfl) | exact calls_sub (isT2 (S.out.sa.below (Sub.h _)) true rfl) | exact calls_sub (isT2 (S.out.sa.below (Sub.h _)) false (by rw [D.out]; rfl)) | exact calls_sub (isT2 (S.out.sa.below (Sub.h _)) true (by rw [D.out]; rfl)) | exact calls_sub (isT2 (S.out.sa.below (Sub.h _)) _ rfl)) | (go_at_call_of 60 (Value.string ⟨#[77]⟩); first | exact calls_sub (isT4 (S.out.sa.below (Sub.h _)) false rfl) | exact calls_sub (isT4 (S.out.sa.below (Sub.h _)) true rfl) | exact calls_sub (isT4 (S.out.sa.below (Sub.h _)) false (by rw [D.out]; rfl)) | exact calls_sub (isT4 (S.out.sa.below (Sub.h _)) true (by rw [D.out]; rfl)) | exact calls_sub (isT4 (S.out.sa.below (Sub.h _)) _ rfl)) | (go_at_call_of 61 (Value.string ⟨#[80, 84]⟩); exact calls_sub (getT1 (S.out.sa.below (Sub.h _)))) | (go_at_call 65; exact calls_sub (since_of gn gi cn ci now _ _ _ _ _ _ _ (S.out.sa.below (Sub.h _)) (by omega) (by omega))))))
      refine wpQuiet_nil ?_
      rintro _ ⟨y, rfl⟩
      clear cx
      have S : Hid (BX w y.w b0 gn gi 6 cn ci nLT _) := S.out.below y.h
      clear q0 q1 zb
      have q0 := S.out.c0
      have q1 := S.out.c1
      go_wp2_with (first | (go_at_call_of 60 (Value.string ⟨#[73, 78]⟩); (first | refine (isT0 (by first | exact S.out.sa | exact S.out.drew.sa) false rfl).mono ?_ | refine (isT0 (by first | exact S.out.sa | exact S.out.drew.sa) true rfl).mono ?_ | refine (isT0 (by first | exact S.out.sa | exact S.out.drew.sa) false (by rw [D.out]; rfl)).mono ?_ | refine (isT0 (by first | exact S.out.sa | exact S.out.drew.sa) true (by rw [D.out]; rfl)).mono ?_ | refine (isT0 (by first | exact S.out.sa | exact S.out.drew.sa) _ rfl).mono ?_); rintro e w1 ⟨rfl, hb⟩; have S : Hid (BX w w1 b0 gn gi 6 cn ci nLT _) := (by first | exact S.out.below hb | exact S.out.drew.below hb); clear hb; (try clear q0 q1); have q0 := S.out.c0; have q1 := S.out.c1) | (go_at_call_of 60 (Value.string ⟨#[81]⟩); (first | refine (isT2 (by first | exact S.out.sa | exact S.out.drew.sa) false rfl).mono ?_ | refine (isT2 (by first | exact S.out.sa | exact S.out.drew.sa) true rfl).mono ?_ | refine (isT2 (by first | exact S.out.sa | exact S.out.drew.sa) false (by rw [D.out]; rfl)).mono ?_ | refine (isT2 (by first | exact S.out.sa | exact S.out.drew.sa) true (by rw [D.out]; rfl)).mono ?_ | refine (isT2 (by first | exact S.out.sa | exact S.out.drew.sa) _ rfl).mono ?_); rintro e w1 ⟨rfl, hb⟩; have S : Hid (BX w w1 b0 gn gi 6 cn ci nLT _) := (by first | exact S.out.below hb | exact S.out.drew.below hb); clear hb; (try clear q0 q1); have q0 := S.out.c0; have q1 := S.out.c1) | (go_at_call_of 60 (Value.string ⟨#[77]⟩); (first | refine (isT4 (by first | exact S.out.sa | exact S.out.drew.sa) false rfl).mono ?_ | refine (isT4 (by first | exact S.out.sa | exact S.out.drew.sa) true rfl).mono ?_ | refine (isT4 (by first | exact S.out.sa | exact S.out.drew.sa) false (by rw [D.out]; rfl)).mono ?_ | refine (isT4 (by first | exact S.out.sa | exact S.out.drew.sa) true (by rw [D.out]; rfl)).mono ?_ | refine (isT4 (by first | exact S.out.sa | exact S.out.drew.sa) _ rfl).mono ?_); rintro e w1 ⟨rfl, hb⟩; have S : Hid (BX w w1 b0 gn gi 6 cn ci nLT _) := (by first | exact S.out.below hb | exact S.out.drew.below hb); clear hb; (try clear q0 q1); have q0 := S.out.c0; have q1 := S.out.c1) | (go_at_call_of 61 (Value.string ⟨#[80, 84]⟩); refine (getT1 (by first | exact S.out.sa | exact S.out.drew.sa)).mono ?_; rintro e w1 ⟨rfl, hb⟩; have S : Hid (BX w w1 b0 gn gi 6 cn ci nLT _) := (by first | exact S.out.below hb | exact S.out.drew.below hb); clear hb; (try clear q0 q1); have q0 := S.out.c0; have q1 := S.out.c1) | (go_at_call_of 63 (Value.string ⟨#[69, 84]⟩); refine (putT3 (by first | exact S.out.sa | exact S.out.drew.sa) _).mono ?_; rintro e w1 ⟨rfl, hb⟩; have S : Hid (BX w w1 b0 gn gi 6 cn ci nLT _) := (by first | exact S.out.put hb rfl | exact S.out.drew.put hb rfl); clear hb; (try clear q0 q1); have q0 := S.out.c0; have q1 := S.out.c1) | (go_at_call_of 63 (Value.string ⟨#[83]⟩); refine (putT5 (by first | exact S.out.sa | exact S.out.drew.sa) _).mono ?_; rintro e w1 ⟨rfl, hb⟩; have S : Hid (BX w w1 b0 gn gi 6 cn ci nLT _) := (by first | exact S.out.put hb rfl | exact S.out.drew.put hb rfl); clear hb; (try clear q0 q1); have q0 := S.out.c0; have q1 := S.out.c1) | (go_at_call_of 59 (Value.string ⟨#[81]⟩); refine (sayT2 (by first | exact S.out.sa | exact S.out.drew.sa) _).mono ?_; rintro e w1 ⟨rfl, hb⟩; have S : Hid (BX w w1 b0 gn gi 6 cn ci nLT _) := (by first | exact S.out.put hb rfl | exact S.out.drew.put hb rfl); clear hb; (try clear q0 q1); have q0 := S.out.c0; have q1 := S.out.c1) | (go_at_call_of 59 (Value.string ⟨#[77]⟩); refine (sayT4 (by first | exact S.out.sa | exact S.out.drew.sa) _).mono ?_; rintro e w1 ⟨rfl, hb⟩; have S : Hid (BX w w1 b0 gn gi 6 cn ci nLT _) := (by first | exact S.out.put hb rfl | exact S.out.drew.put hb rfl); clear hb; (try clear q0 q1); have q0 := S.out.c0; have q1 := S.out.c1) | (go_at_call 64; refine (spent_of gn gi cn ci _ _ _ _ _ _ _ _ _ (by first | exact S.out.sa | exact S.out.drew.sa)).mono ?_; rintro e w1 ⟨rfl, hb⟩; (first | rw [if_pos hx.out] at hb | rw [if_neg hx.out] at hb | rw [if_neg (Int.not_le.2 hx.out)] at hb); have S : Hid (BX w w1 b0 gn gi 6 cn ci nLT _) := (by first | exact S.out.put hb rfl | exact S.out.drew.put hb rfl); clear hb; (try clear q0 q1); have q0 := S.out.c0; have q1 := S.out.c1) | (go_at_call 62; (first | refine (rises_r (nm := ⟨#[73, 78]⟩) (nn := ⟨#[77]⟩) (i := 0) (j := 4) (by first | exact S.out.sa | exact S.out.drew.sa) (at_b rfl) rfl (at_b rfl) rfl false rfl).mono ?_ | refine (rises_r (nm := ⟨#[73, 78]⟩) (nn := ⟨#[77]⟩) (i := 0) (j := 4) (by first | exact S.out.sa | exact S.out.drew.sa) (at_b rfl) rfl (at_b rfl) rfl true rfl).mono ?_); rintro e w1 ⟨rfl, hb⟩; have S : Hid (BX w w1 b0 gn gi 6 cn ci nLT _) := (by first | exact S.out.below hb | exact S.out.drew.below hb); clear hb; (try clear q0 q1); have q0 := S.out.c0; have q1 := S.out.c1) | (go_at_call 65; refine (since_of gn gi cn ci now _ _ _ _ _ _ _ (by first | exact S.out.sa | exact S.out.drew.sa) (by omega) (by omega)).mono ?_; rintro e w1 ⟨rfl, hb⟩; have S : Hid (BX w w1 b0 gn gi 6 cn ci nLT _) := (by first | exact S.out.below hb | exact S.out.drew.below hb); clear hb; (try clear q0 q1); have q0 := S.out.c0; have q1 := S.out.c1))
      refine wp_region_last _ (by kernel_rfl) (by kernel_rfl) rfl ?_
      intro cx
      simp only [List.dropLast]
      have zb := S.out.bl
      repeat (first | go_big_quiet_skip | (go_big_quiet_want; go_big_quiet_op; first | go_big_quiet_on | (refine ⟨_, fun _ => rfl, ?_⟩; go_big_quiet_on) | go_big_quiet_call (first | (go_at_call_of 60 (Value.string ⟨#[73, 78]⟩); first | exact calls_sub (isT0 (S.out.sa.below (Sub.h _)) false rfl) | exact calls_sub (isT0 (S.out.sa.below (Sub.h _)) true rfl) | exact calls_sub (isT0 (S.out.sa.below (Sub.h _)) false (by rw [D.out]; rfl)) | exact calls_sub (isT0 (S.out.sa.below (Sub.h _)) true (by rw [D.out]; rfl)) | exact calls_sub (isT0 (S.out.sa.below (Sub.h _)) _ rfl)) | (go_at_call_of 60 (Value.string ⟨#[81]⟩); first | exact calls_sub (isT2 (S.out.sa.below (Sub.h _)) false rfl) | exact calls_sub (isT2 (S.out.sa.below (Sub.h _)) true rfl) | exact calls_sub (isT2 (S.out.sa.below (Sub.h _)) false (by rw [D.out]; rfl)) | exact calls_sub (isT2 (S.out.sa.below (Sub.h _)) true (by rw [D.out]; rfl)) | exact calls_sub (isT2 (S.out.sa.below (Sub.h _)) _ rfl)) | (go_at_call_of 60 (Value.string ⟨#[77]⟩); first | exact calls_sub (isT4 (S.out.sa.below (Sub.h _)) false rfl) | exact calls_sub (isT4 (S.out.sa.below (Sub.h _)) true rfl) | exact calls_sub (isT4 (S.out.sa.below (Sub.h _)) false (by rw [D.out]; rfl)) | exact calls_sub (isT4 (S.out.sa.below (Sub.h _)) true (by rw [D.out]; rfl)) | exact calls_sub (isT4 (S.out.sa.below (Sub.h _)) _ rfl)) | (go_at_call_of 61 (Value.string ⟨#[80, 84]⟩); exact calls_sub (getT1 (S.out.sa.below (Sub.h _)))) | (go_at_call 65; exact calls_sub (since_of gn gi cn ci now _ _ _ _ _ _ _ (S.out.sa.below (Sub.h _)) (by omega) (by omega))))))
      refine wpQuiet_nil ?_
      rintro _ ⟨y, rfl⟩
      clear cx
      have S : Hid (BX w y.w b0 gn gi 6 cn ci nLT _) := S.out.below y.h
      clear q0 q1 zb
      have q0 := S.out.c0
      have q1 := S.out.c1
      go_wp2_with (first | (go_at_call_of 60 (Value.string ⟨#[73, 78]⟩); (first | refine (isT0 (by first | exact S.out.sa | exact S.out.drew.sa) false rfl).mono ?_ | refine (isT0 (by first | exact S.out.sa | exact S.out.drew.sa) true rfl).mono ?_ | refine (isT0 (by first | exact S.out.sa | exact S.out.drew.sa) false (by rw [D.out]; rfl)).mono ?_ | refine (isT0 (by first | exact S.out.sa | exact S.out.drew.sa) true (by rw [D.out]; rfl)).mono ?_ | refine (isT0 (by first | exact S.out.sa | exact S.out.drew.sa) _ rfl).mono ?_); rintro e w1 ⟨rfl, hb⟩; have S : Hid (BX w w1 b0 gn gi 6 cn ci nLT _) := (by first | exact S.out.below hb | exact S.out.drew.below hb); clear hb; (try clear q0 q1); have q0 := S.out.c0; have q1 := S.out.c1) | (go_at_call_of 60 (Value.string ⟨#[81]⟩); (first | refine (isT2 (by first | exact S.out.sa | exact S.out.drew.sa) false rfl).mono ?_ | refine (isT2 (by first | exact S.out.sa | exact S.out.drew.sa) true rfl).mono ?_ | refine (isT2 (by first | exact S.out.sa | exact S.out.drew.sa) false (by rw [D.out]; rfl)).mono ?_ | refine (isT2 (by first | exact S.out.sa | exact S.out.drew.sa) true (by rw [D.out]; rfl)).mono ?_ | refine (isT2 (by first | exact S.out.sa | exact S.out.drew.sa) _ rfl).mono ?_); rintro e w1 ⟨rfl, hb⟩; have S : Hid (BX w w1 b0 gn gi 6 cn ci nLT _) := (by first | exact S.out.below hb | exact S.out.drew.below hb); clear hb; (try clear q0 q1); have q0 := S.out.c0; have q1 := S.out.c1) | (go_at_call_of 60 (Value.string ⟨#[77]⟩); (first | refine (isT4 (by first | exact S.out.sa | exact S.out.drew.sa) false rfl).mono ?_ | refine (isT4 (by first | exact S.out.sa | exact S.out.drew.sa) true rfl).mono ?_ | refine (isT4 (by first | exact S.out.sa | exact S.out.drew.sa) false (by rw [D.out]; rfl)).mono ?_ | refine (isT4 (by first | exact S.out.sa | exact S.out.drew.sa) true (by rw [D.out]; rfl)).mono ?_ | refine (isT4 (by first | exact S.out.sa | exact S.out.drew.sa) _ rfl).mono ?_); rintro e w1 ⟨rfl, hb⟩; have S : Hid (BX w w1 b0 gn gi 6 cn ci nLT _) := (by first | exact S.out.below hb | exact S.out.drew.below hb); clear hb; (try clear q0 q1); have q0 := S.out.c0; have q1 := S.out.c1) | (go_at_call_of 61 (Value.string ⟨#[80, 84]⟩); refine (getT1 (by first | exact S.out.sa | exact S.out.drew.sa)).mono ?_; rintro e w1 ⟨rfl, hb⟩; have S : Hid (BX w w1 b0 gn gi 6 cn ci nLT _) := (by first | exact S.out.below hb | exact S.out.drew.below hb); clear hb; (try clear q0 q1); have q0 := S.out.c0; have q1 := S.out.c1) | (go_at_call_of 63 (Value.string ⟨#[69, 84]⟩); refine (putT3 (by first | exact S.out.sa | exact S.out.drew.sa) _).mono ?_; rintro e w1 ⟨rfl, hb⟩; have S : Hid (BX w w1 b0 gn gi 6 cn ci nLT _) := (by first | exact S.out.put hb rfl | exact S.out.drew.put hb rfl); clear hb; (try clear q0 q1); have q0 := S.out.c0; have q1 := S.out.c1) | (go_at_call_of 63 (Value.string ⟨#[83]⟩); refine (putT5 (by first | exact S.out.sa | exact S.out.drew.sa) _).mono ?_; rintro e w1 ⟨rfl, hb⟩; have S : Hid (BX w w1 b0 gn gi 6 cn ci nLT _) := (by first | exact S.out.put hb rfl | exact S.out.drew.put hb rfl); clear hb; (try clear q0 q1); have q0 := S.out.c0; have q1 := S.out.c1) | (go_at_call_of 59 (Value.string ⟨#[81]⟩); refine (sayT2 (by first | exact S.out.sa | exact S.out.drew.sa) _).mono ?_; rintro e w1 ⟨rfl, hb⟩; have S : Hid (BX w w1 b0 gn gi 6 cn ci nLT _) := (by first | exact S.out.put hb rfl | exact S.out.drew.put hb rfl); clear hb; (try clear q0 q1); have q0 := S.out.c0; have q1 := S.out.c1) | (go_at_call_of 59 (Value.string ⟨#[77]⟩); refine (sayT4 (by first | exact S.out.sa | exact S.out.drew.sa) _).mono ?_; rintro e w1 ⟨rfl, hb⟩; have S : Hid (BX w w1 b0 gn gi 6 cn ci nLT _) := (by first | exact S.out.put hb rfl | exact S.out.drew.put hb rfl); clear hb; (try clear q0 q1); have q0 := S.out.c0; have q1 := S.out.c1) | (go_at_call 64; refine (spent_of gn gi cn ci _ _ _ _ _ _ _ _ _ (by first | exact S.out.sa | exact S.out.drew.sa)).mono ?_; rintro e w1 ⟨rfl, hb⟩; (first | rw [if_pos hx.out] at hb | rw [if_neg hx.out] at hb | rw [if_neg (Int.not_le.2 hx.out)] at hb); have S : Hid (BX w w1 b0 gn gi 6 cn ci nLT _) := (by first | exact S.out.put hb rfl | exact S.out.drew.put hb rfl); clear hb; (try clear q0 q1); have q0 := S.out.c0; have q1 := S.out.c1) | (go_at_call 62; (first | refine (rises_r (nm := ⟨#[73, 78]⟩) (nn := ⟨#[77]⟩) (i := 0) (j := 4) (by first | exact S.out.sa | exact S.out.drew.sa) (at_b rfl) rfl (at_b rfl) rfl false rfl).mono ?_ | refine (rises_r (nm := ⟨#[73, 78]⟩) (nn := ⟨#[77]⟩) (i := 0) (j := 4) (by first | exact S.out.sa | exact S.out.drew.sa) (at_b rfl) rfl (at_b rfl) rfl true rfl).mono ?_); rintro e w1 ⟨rfl, hb⟩; have S : Hid (BX w w1 b0 gn gi 6 cn ci nLT _) := (by first | exact S.out.below hb | exact S.out.drew.below hb); clear hb; (try clear q0 q1); have q0 := S.out.c0; have q1 := S.out.c1) | (go_at_call 65; refine (since_of gn gi cn ci now _ _ _ _ _ _ _ (by first | exact S.out.sa | exact S.out.drew.sa) (by omega) (by omega)).mono ?_; rintro e w1 ⟨rfl, hb⟩; have S : Hid (BX w w1 b0 gn gi 6 cn ci nLT _) := (by first | exact S.out.below hb | exact S.out.drew.below hb); clear hb; (try clear q0 q1); have q0 := S.out.c0; have q1 := S.out.c1))
      refine wp_region_last _ (by kernel_rfl) (by kernel_rfl) rfl ?_
      intro cx
      simp only [List.dropLast]
      have zb := S.out.bl
      repeat (first | go_big_quiet_skip | (go_big_quiet_want; go_big_quiet_op; first | go_big_quiet_on | (refine ⟨_, fun _ => rfl, ?_⟩; go_big_quiet_on) | go_big_quiet_call (first | (go_at_call_of 60 (Value.string ⟨#[73, 78]⟩); first | exact calls_sub (isT0 (S.out.sa.below (Sub.h _)) false rfl) | exact calls_sub (isT0 (S.out.sa.below (Sub.h _)) true rfl) | exact calls_sub (isT0 (S.out.sa.below (Sub.h _)) false (by rw [D.out]; rfl)) | exact calls_sub (isT0 (S.out.sa.below (Sub.h _)) true (by rw [D.out]; rfl)) | exact calls_sub (isT0 (S.out.sa.below (Sub.h _)) _ rfl)) | (go_at_call_of 60 (Value.string ⟨#[81]⟩); first | exact calls_sub (isT2 (S.out.sa.below (Sub.h _)) false rfl) | exact calls_sub (isT2 (S.out.sa.below (Sub.h _)) true rfl) | exact calls_sub (isT2 (S.out.sa.below (Sub.h _)) false (by rw [D.out]; rfl)) | exact calls_sub (isT2 (S.out.sa.below (Sub.h _)) true (by rw [D.out]; rfl)) | exact calls_sub (isT2 (S.out.sa.below (Sub.h _)) _ rfl)) | (go_at_call_of 60 (Value.string ⟨#[77]⟩); first | exact calls_sub (isT4 (S.out.sa.below (Sub.h _)) false rfl) | exact calls_sub (isT4 (S.out.sa.below (Sub.h _)) true rfl) | exact calls_sub (isT4 (S.out.sa.below (Sub.h _)) false (by rw [D.out]; rfl)) | exact calls_sub (isT4 (S.out.sa.below (Sub.h _)) true (by rw [D.out]; rfl)) | exact calls_sub (isT4 (S.out.sa.below (Sub.h _)) _ rfl)) | (go_at_call_of 61 (Value.string ⟨#[80, 84]⟩); exact calls_sub (getT1 (S.out.sa.below (Sub.h _)))) | (go_at_call 65; exact calls_sub (since_of gn gi cn ci now _ _ _ _ _ _ _ (S.out.sa.below (Sub.h _)) (by omega) (by omega))))))
      refine wpQuiet_nil ?_
      rintro _ ⟨y, rfl⟩
      clear cx
      have S : Hid (BX w y.w b0 gn gi 6 cn ci nLT _) := S.out.below y.h
      clear q0 q1 zb
      have q0 := S.out.c0
      have q1 := S.out.c1
      go_wp2_with (first | (go_at_call_of 60 (Value.string ⟨#[73, 78]⟩); (first | refine (isT0 (by first | exact S.out.sa | exact S.out.drew.sa) false rfl).mono ?_ | refine (isT0 (by first | exact S.out.sa | exact S.out.drew.sa) true rfl).mono ?_ | refine (isT0 (by first | exact S.out.sa | exact S.out.drew.sa) false (by rw [D.out]; rfl)).mono ?_ | refine (isT0 (by first | exact S.out.sa | exact S.out.drew.sa) true (by rw [D.out]; rfl)).mono ?_ | refine (isT0 (by first | exact S.out.sa | exact S.out.drew.sa) _ rfl).mono ?_); rintro e w1 ⟨rfl, hb⟩; have S : Hid (BX w w1 b0 gn gi 6 cn ci nLT _) := (by first | exact S.out.below hb | exact S.out.drew.below hb); clear hb; (try clear q0 q1); have q0 := S.out.c0; have q1 := S.out.c1) | (go_at_call_of 60 (Value.string ⟨#[81]⟩); (first | refine (isT2 (by first | exact S.out.sa | exact S.out.drew.sa) false rfl).mono ?_ | refine (isT2 (by first | exact S.out.sa | exact S.out.drew.sa) true rfl).mono ?_ | refine (isT2 (by first | exact S.out.sa | exact S.out.drew.sa) false (by rw [D.out]; rfl)).mono ?_ | refine (isT2 (by first | exact S.out.sa | exact S.out.drew.sa) true (by rw [D.out]; rfl)).mono ?_ | refine (isT2 (by first | exact S.out.sa | exact S.out.drew.sa) _ rfl).mono ?_); rintro e w1 ⟨rfl, hb⟩; have S : Hid (BX w w1 b0 gn gi 6 cn ci nLT _) := (by first | exact S.out.below hb | exact S.out.drew.below hb); clear hb; (try clear q0 q1); have q0 := S.out.c0; have q1 := S.out.c1) | (go_at_call_of 60 (Value.string ⟨#[77]⟩); (first | refine (isT4 (by first | exact S.out.sa | exact S.out.drew.sa) false rfl).mono ?_ | refine (isT4 (by first | exact S.out.sa | exact S.out.drew.sa) true rfl).mono ?_ | refine (isT4 (by first | exact S.out.sa | exact S.out.drew.sa) false (by rw [D.out]; rfl)).mono ?_ | refine (isT4 (by first | exact S.out.sa | exact S.out.drew.sa) true (by rw [D.out]; rfl)).mono ?_ | refine (isT4 (by first | exact S.out.sa | exact S.out.drew.sa) _ rfl).mono ?_); rintro e w1 ⟨rfl, hb⟩; have S : Hid (BX w w1 b0 gn gi 6 cn ci nLT _) := (by first | exact S.out.below hb | exact S.out.drew.below hb); clear hb; (try clear q0 q1); have q0 := S.out.c0; have q1 := S.out.c1) | (go_at_call_of 61 (Value.string ⟨#[80, 84]⟩); refine (getT1 (by first | exact S.out.sa | exact S.out.drew.sa)).mono ?_; rintro e w1 ⟨rfl, hb⟩; have S : Hid (BX w w1 b0 gn gi 6 cn ci nLT _) := (by first | exact S.out.below hb | exact S.out.drew.below hb); clear hb; (try clear q0 q1); have q0 := S.out.c0; have q1 := S.out.c1) | (go_at_call_of 63 (Value.string ⟨#[69, 84]⟩); refine (putT3 (by first | exact S.out.sa | exact S.out.drew.sa) _).mono ?_; rintro e w1 ⟨rfl, hb⟩; have S : Hid (BX w w1 b0 gn gi 6 cn ci nLT _) := (by first | exact S.out.put hb rfl | exact S.out.drew.put hb rfl); clear hb; (try clear q0 q1); have q0 := S.out.c0; have q1 := S.out.c1) | (go_at_call_of 63 (Value.string ⟨#[83]⟩); refine (putT5 (by first | exact S.out.sa | exact S.out.drew.sa) _).mono ?_; rintro e w1 ⟨rfl, hb⟩; have S : Hid (BX w w1 b0 gn gi 6 cn ci nLT _) := (by first | exact S.out.put hb rfl | exact S.out.drew.put hb rfl); clear hb; (try clear q0 q1); have q0 := S.out.c0; have q1 := S.out.c1) | (go_at_call_of 59 (Value.string ⟨#[81]⟩); refine (sayT2 (by first | exact S.out.sa | exact S.out.drew.sa) _).mono ?_; rintro e w1 ⟨rfl, hb⟩; have S : Hid (BX w w1 b0 gn gi 6 cn ci nLT _) := (by first | exact S.out.put hb rfl | exact S.out.drew.put hb rfl); clear hb; (try clear q0 q1); have q0 := S.out.c0; have q1 := S.out.c1) | (go_at_call_of 59 (Value.string ⟨#[77]⟩); refine (sayT4 (by first | exact S.out.sa | exact S.out.drew.sa) _).mono ?_; rintro e w1 ⟨rfl, hb⟩; have S : Hid (BX w w1 b0 gn gi 6 cn ci nLT _) := (by first | exact S.out.put hb rfl | exact S.out.drew.put hb rfl); clear hb; (try clear q0 q1); have q0 := S.out.c0; have q1 := S.out.c1) | (go_at_call 64; refine (spent_of gn gi cn ci _ _ _ _ _ _ _ _ _ (by first | exact S.out.sa | exact S.out.drew.sa)).mono ?_; rintro e w1 ⟨rfl, hb⟩; (first | rw [if_pos hx.out] at hb | rw [if_neg hx.out] at hb | rw [if_neg (Int.not_le.2 hx.out)] at hb); have S : Hid (BX w w1 b0 gn gi 6 cn ci nLT _) := (by first | exact S.out.put hb rfl | exact S.out.drew.put hb rfl); clear hb; (try clear q0 q1); have q0 := S.out.c0; have q1 := S.out.c1) | (go_at_call 62; (first | refine (rises_r (nm := ⟨#[73, 78]⟩) (nn := ⟨#[77]⟩) (i := 0) (j := 4) (by first | exact S.out.sa | exact S.out.drew.sa) (at_b rfl) rfl (at_b rfl) rfl false rfl).mono ?_ | refine (rises_r (nm := ⟨#[73, 78]⟩) (nn := ⟨#[77]⟩) (i := 0) (j := 4) (by first | exact S.out.sa | exact S.out.drew.sa) (at_b rfl) rfl (at_b rfl) rfl true rfl).mono ?_); rintro e w1 ⟨rfl, hb⟩; have S : Hid (BX w w1 b0 gn gi 6 cn ci nLT _) := (by first | exact S.out.below hb | exact S.out.drew.below hb); clear hb; (try clear q0 q1); have q0 := S.out.c0; have q1 := S.out.c1) | (go_at_call 65; refine (since_of gn gi cn ci now _ _ _ _ _ _ _ (by first | exact S.out.sa | exact S.out.drew.sa) (by omega) (by omega)).mono ?_; rintro e w1 ⟨rfl, hb⟩; have S : Hid (BX w w1 b0 gn gi 6 cn ci nLT _) := (by first | exact S.out.below hb | exact S.out.drew.below hb); clear hb; (try clear q0 q1); have q0 := S.out.c0; have q1 := S.out.c1))
      go_end0
      refine ⟨rfl, S.out.ws.to ?_⟩
      have sp := SP.out
      have hx' := hx.out
      unfold nxt
      (try unfold pQ)
      (try unfold pE)
      (try unfold els)
      (try unfold tN)
      first | (simp [*]; done) | (simp [*]; omega)
end Go.Proofs.YtjnegbjgogkamaaDoor
namespace Go.Proofs.YtjnegbjgogkamaaDoor
set_option linter.unusedVariables false
open Go.RowKit
set_option maxRecDepth 20000 in
set_option maxHeartbeats 16000000 in
theorem time_9p (gn gi cn ci : Nat) (now a b c d m s : Int) (w : World) (h : SA w gn gi 6 nLT [a, b, c, d, m, s]) (ha : B01 a) (hc : B01 c) (hm : B01 m) (hd : -9223372036854775808 ≤ d ∧ d < 9223372036854775808) (hs : -9223372036854775808 ≤ s ∧ s < 9223372036854775808) (hn : 0 ≤ now ∧ now ≤ 4611686018427387904) (hb : 0 ≤ b) (hb2 : b < 9223372036854775808) :
    Calls Tryd.prog 39 #[SV gn gi 6 cn ci, .int .i64 9, .int .i64 now] w fun e w' => e = .returned (.tuple #[]) ∧ Ws w w' gi (nxt 9 now [a, b, c, d, m, s]) := by
  have HA : Hid (B01 a) := ha
  have HC : Hid (B01 c) := hc
  have HM : Hid (B01 m) := hm
  obtain ⟨n0, n1⟩ := hn
  obtain ⟨s0, s1⟩ := hs
  have sg : ∀ x, 0 ≤ sinc now x := by intro x; unfold sinc; split <;> omega
  have SG : Hid (∀ x, 0 ≤ sinc now x) := sg
  clear ha hc hm sg
  have SP : Hid (spn b = b) := by show _ = _; unfold spn; rw [if_neg (by omega)]
  rcases HA.out with rfl | rfl
  · have S0 : Hid (SA w gn gi 6 nLT _) := h
    clear h
    go_enter Tryd.func39, Tryd.ntmps39
    go_wp2_with fail
    have S : Hid (BX w (w.alloc (.cells #[.slice (some ⟨gn, 0, none⟩) 6 cn, .slice (some ⟨gi, 0, none⟩) 6 ci] 71)) w.heap.size gn gi 6 cn ci nLT _) := BX.new cn ci S0.out
    have q0 := S.out.c0
    have q1 := S.out.c1
    generalize w.alloc (.cells #[.slice (some ⟨gn, 0, none⟩) 6 cn, .slice (some ⟨gi, 0, none⟩) 6 ci] 71) = W0 at S q0 q1 ⊢
    generalize w.heap.size = b0 at S q0 q1 ⊢
    go_wp2_with (first | (go_at_call_of 60 (Value.string ⟨#[73, 78]⟩); (first | refine (isT0 (by first | exact S.out.sa | exact S.out.drew.sa) false rfl).mono ?_ | refine (isT0 (by first | exact S.out.sa | exact S.out.drew.sa) true rfl).mono ?_ | refine (isT0 (by first | exact S.out.sa | exact S.out.drew.sa) false (by rw [D.out]; rfl)).mono ?_ | refine (isT0 (by first | exact S.out.sa | exact S.out.drew.sa) true (by rw [D.out]; rfl)).mono ?_ | refine (isT0 (by first | exact S.out.sa | exact S.out.drew.sa) _ rfl).mono ?_); rintro e w1 ⟨rfl, hb⟩; have S : Hid (BX w w1 b0 gn gi 6 cn ci nLT _) := (by first | exact S.out.below hb | exact S.out.drew.below hb); clear hb; (try clear q0 q1); have q0 := S.out.c0; have q1 := S.out.c1) | (go_at_call_of 60 (Value.string ⟨#[81]⟩); (first | refine (isT2 (by first | exact S.out.sa | exact S.out.drew.sa) false rfl).mono ?_ | refine (isT2 (by first | exact S.out.sa | exact S.out.drew.sa) true rfl).mono ?_ | refine (isT2 (by first | exact S.out.sa | exact S.out.drew.sa) false (by rw [D.out]; rfl)).mono ?_ | refine (isT2 (by first | exact S.out.sa | exact S.out.drew.sa) true (by rw [D.out]; rfl)).mono ?_ | refine (isT2 (by first | exact S.out.sa | exact S.out.drew.sa) _ rfl).mono ?_); rintro e w1 ⟨rfl, hb⟩; have S : Hid (BX w w1 b0 gn gi 6 cn ci nLT _) := (by first | exact S.out.below hb | exact S.out.drew.below hb); clear hb; (try clear q0 q1); have q0 := S.out.c0; have q1 := S.out.c1) | (go_at_call_of 60 (Value.string ⟨#[77]⟩); (first | refine (isT4 (by first | exact S.out.sa | exact S.out.drew.sa) false rfl).mono ?_ | refine (isT4 (by first | exact S.out.sa | exact S.out.drew.sa) true rfl).mono ?_ | refine (isT4 (by first | exact S.out.sa | exact S.out.drew.sa) false (by rw [D.out]; rfl)).mono ?_ | refine (isT4 (by first | exact S.out.sa | exact S.out.drew.sa) true (by rw [D.out]; rfl)).mono ?_ | refine (isT4 (by first | exact S.out.sa | exact S.out.drew.sa) _ rfl).mono ?_); rintro e w1 ⟨rfl, hb⟩; have S : Hid (BX w w1 b0 gn gi 6 cn ci nLT _) := (by first | exact S.out.below hb | exact S.out.drew.below hb); clear hb; (try clear q0 q1); have q0 := S.out.c0; have q1 := S.out.c1) | (go_at_call_of 61 (Value.string ⟨#[80, 84]⟩); refine (getT1 (by first | exact S.out.sa | exact S.out.drew.sa)).mono ?_; rintro e w1 ⟨rfl, hb⟩; have S : Hid (BX w w1 b0 gn gi 6 cn ci nLT _) := (by first | exact S.out.below hb | exact S.out.drew.below hb); clear hb; (try clear q0 q1); have q0 := S.out.c0; have q1 := S.out.c1) | (go_at_call_of 63 (Value.string ⟨#[69, 84]⟩); refine (putT3 (by first | exact S.out.sa | exact S.out.drew.sa) _).mono ?_; rintro e w1 ⟨rfl, hb⟩; have S : Hid (BX w w1 b0 gn gi 6 cn ci nLT _) := (by first | exact S.out.put hb rfl | exact S.out.drew.put hb rfl); clear hb; (try clear q0 q1); have q0 := S.out.c0; have q1 := S.out.c1) | (go_at_call_of 63 (Value.string ⟨#[83]⟩); refine (putT5 (by first | exact S.out.sa | exact S.out.drew.sa) _).mono ?_; rintro e w1 ⟨rfl, hb⟩; have S : Hid (BX w w1 b0 gn gi 6 cn ci nLT _) := (by first | exact S.out.put hb rfl | exact S.out.drew.put hb rfl); clear hb; (try clear q0 q1); have q0 := S.out.c0; have q1 := S.out.c1) | (go_at_call_of 59 (Value.string ⟨#[81]⟩); refine (sayT2 (by first | exact S.out.sa | exact S.out.drew.sa) _).mono ?_; rintro e w1 ⟨rfl, hb⟩; have S : Hid (BX w w1 b0 gn gi 6 cn ci nLT _) := (by first | exact S.out.put hb rfl | exact S.out.drew.put hb rfl); clear hb; (try clear q0 q1); have q0 := S.out.c0; have q1 := S.out.c1) | (go_at_call_of 59 (Value.string ⟨#[77]⟩); refine (sayT4 (by first | exact S.out.sa | exact S.out.drew.sa) _).mono ?_; rintro e w1 ⟨rfl, hb⟩; have S : Hid (BX w w1 b0 gn gi 6 cn ci nLT _) := (by first | exact S.out.put hb rfl | exact S.out.drew.put hb rfl); clear hb; (try clear q0 q1); have q0 := S.out.c0; have q1 := S.out.c1) | (go_at_call 64; refine (spent_of gn gi cn ci _ _ _ _ _ _ _ _ _ (by first | exact S.out.sa | exact S.out.drew.sa)).mono ?_; rintro e w1 ⟨rfl, hb⟩; (first | rw [if_pos hx.out] at hb | rw [if_neg hx.out] at hb | rw [if_neg (Int.not_le.2 hx.out)] at hb); have S : Hid (BX w w1 b0 gn gi 6 cn ci nLT _) := (by first | exact S.out.put hb rfl | exact S.out.drew.put hb rfl); clear hb; (try clear q0 q1); have q0 := S.out.c0; have q1 := S.out.c1) | (go_at_call 62; (first | refine (rises_r (nm := ⟨#[73, 78]⟩) (nn := ⟨#[77]⟩) (i := 0) (j := 4) (by first | exact S.out.sa | exact S.out.drew.sa) (at_b rfl) rfl (at_b rfl) rfl false rfl).mono ?_ | refine (rises_r (nm := ⟨#[73, 78]⟩) (nn := ⟨#[77]⟩) (i := 0) (j := 4) (by first | exact S.out.sa | exact S.out.drew.sa) (at_b rfl) rfl (at_b rfl) rfl true rfl).mono ?_); rintro e w1 ⟨rfl, hb⟩; have S : Hid (BX w w1 b0 gn gi 6 cn ci nLT _) := (by first | exact S.out.below hb | exact S.out.drew.below hb); clear hb; (try clear q0 q1); have q0 := S.out.c0; have q1 := S.out.c1) | (go_at_call 65; refine (since_of gn gi cn ci now _ _ _ _ _ _ _ (by first | exact S.out.sa | exact S.out.drew.sa) (by omega) (by omega)).mono ?_; rintro e w1 ⟨rfl, hb⟩; have S : Hid (BX w w1 b0 gn gi 6 cn ci nLT _) := (by first | exact S.out.below hb | exact S.out.drew.below hb); clear hb; (try clear q0 q1); have q0 := S.out.c0; have q1 := S.out.c1))
    refine wp_region_last _ (by kernel_rfl) (by kernel_rfl) rfl ?_
    intro cx
    simp only [List.dropLast]
    have zb := S.out.bl
    repeat (first | go_big_quiet_skip | (go_big_quiet_want; go_big_quiet_op; first | go_big_quiet_on | (refine ⟨_, fun _ => rfl, ?_⟩; go_big_quiet_on) | go_big_quiet_call (first | (go_at_call_of 60 (Value.string ⟨#[73, 78]⟩); first | exact calls_sub (isT0 (S.out.sa.below (Sub.h _)) false rfl) | exact calls_sub (isT0 (S.out.sa.below (Sub.h _)) true rfl) | exact calls_sub (isT0 (S.out.sa.below (Sub.h _)) false (by rw [D.out]; rfl)) | exact calls_sub (isT0 (S.out.sa.below (Sub.h _)) true (by rw [D.out]; rfl)) | exact calls_sub (isT0 (S.out.sa.below (Sub.h _)) _ rfl)) | (go_at_call_of 60 (Value.string ⟨#[81]⟩); first | exact calls_sub (isT2 (S.out.sa.below (Sub.h _)) false rfl) | exact calls_sub (isT2 (S.out.sa.below (Sub.h _)) true rfl) | exact calls_sub (isT2 (S.out.sa.below (Sub.h _)) false (by rw [D.out]; rfl)) | exact calls_sub (isT2 (S.out.sa.below (Sub.h _)) true (by rw [D.out]; rfl)) | exact calls_sub (isT2 (S.out.sa.below (Sub.h _)) _ rfl)) | (go_at_call_of 60 (Value.string ⟨#[77]⟩); first | exact calls_sub (isT4 (S.out.sa.below (Sub.h _)) false rfl) | exact calls_sub (isT4 (S.out.sa.below (Sub.h _)) true rfl) | exact calls_sub (isT4 (S.out.sa.below (Sub.h _)) false (by rw [D.out]; rfl)) | exact calls_sub (isT4 (S.out.sa.below (Sub.h _)) true (by rw [D.out]; rfl)) | exact calls_sub (isT4 (S.out.sa.below (Sub.h _)) _ rfl)) | (go_at_call_of 61 (Value.string ⟨#[80, 84]⟩); exact calls_sub (getT1 (S.out.sa.below (Sub.h _)))) | (go_at_call 65; exact calls_sub (since_of gn gi cn ci now _ _ _ _ _ _ _ (S.out.sa.below (Sub.h _)) (by omega) (by omega))))))
    refine wpQuiet_nil ?_
    rintro _ ⟨y, rfl⟩
    clear cx
    have S : Hid (BX w y.w b0 gn gi 6 cn ci nLT _) := S.out.below y.h
    clear q0 q1 zb
    have q0 := S.out.c0
    have q1 := S.out.c1
    go_wp2_with (first | (go_at_call_of 60 (Value.string ⟨#[73, 78]⟩); (first | refine (isT0 (by first | exact S.out.sa | exact S.out.drew.sa) false rfl).mono ?_ | refine (isT0 (by first | exact S.out.sa | exact S.out.drew.sa) true rfl).mono ?_ | refine (isT0 (by first | exact S.out.sa | exact S.out.drew.sa) false (by rw [D.out]; rfl)).mono ?_ | refine (isT0 (by first | exact S.out.sa | exact S.out.drew.sa) true (by rw [D.out]; rfl)).mono ?_ | refine (isT0 (by first | exact S.out.sa | exact S.out.drew.sa) _ rfl).mono ?_); rintro e w1 ⟨rfl, hb⟩; have S : Hid (BX w w1 b0 gn gi 6 cn ci nLT _) := (by first | exact S.out.below hb | exact S.out.drew.below hb); clear hb; (try clear q0 q1); have q0 := S.out.c0; have q1 := S.out.c1) | (go_at_call_of 60 (Value.string ⟨#[81]⟩); (first | refine (isT2 (by first | exact S.out.sa | exact S.out.drew.sa) false rfl).mono ?_ | refine (isT2 (by first | exact S.out.sa | exact S.out.drew.sa) true rfl).mono ?_ | refine (isT2 (by first | exact S.out.sa | exact S.out.drew.sa) false (by rw [D.out]; rfl)).mono ?_ | refine (isT2 (by first | exact S.out.sa | exact S.out.drew.sa) true (by rw [D.out]; rfl)).mono ?_ | refine (isT2 (by first | exact S.out.sa | exact S.out.drew.sa) _ rfl).mono ?_); rintro e w1 ⟨rfl, hb⟩; have S : Hid (BX w w1 b0 gn gi 6 cn ci nLT _) := (by first | exact S.out.below hb | exact S.out.drew.below hb); clear hb; (try clear q0 q1); have q0 := S.out.c0; have q1 := S.out.c1) | (go_at_call_of 60 (Value.string ⟨#[77]⟩); (first | refine (isT4 (by first | exact S.out.sa | exact S.out.drew.sa) false rfl).mono ?_ | refine (isT4 (by first | exact S.out.sa | exact S.out.drew.sa) true rfl).mono ?_ | refine (isT4 (by first | exact S.out.sa | exact S.out.drew.sa) false (by rw [D.out]; rfl)).mono ?_ | refine (isT4 (by first | exact S.out.sa | exact S.out.drew.sa) true (by rw [D.out]; rfl)).mono ?_ | refine (isT4 (by first | exact S.out.sa | exact S.out.drew.sa) _ rfl).mono ?_); rintro e w1 ⟨rfl, hb⟩; have S : Hid (BX w w1 b0 gn gi 6 cn ci nLT _) := (by first | exact S.out.below hb | exact S.out.drew.below hb); clear hb; (try clear q0 q1); have q0 := S.out.c0; have q1 := S.out.c1) | (go_at_call_of 61 (Value.string ⟨#[80, 84]⟩); refine (getT1 (by first | exact S.out.sa | exact S.out.drew.sa)).mono ?_; rintro e w1 ⟨rfl, hb⟩; have S : Hid (BX w w1 b0 gn gi 6 cn ci nLT _) := (by first | exact S.out.below hb | exact S.out.drew.below hb); clear hb; (try clear q0 q1); have q0 := S.out.c0; have q1 := S.out.c1) | (go_at_call_of 63 (Value.string ⟨#[69, 84]⟩); refine (putT3 (by first | exact S.out.sa | exact S.out.drew.sa) _).mono ?_; rintro e w1 ⟨rfl, hb⟩; have S : Hid (BX w w1 b0 gn gi 6 cn ci nLT _) := (by first | exact S.out.put hb rfl | exact S.out.drew.put hb rfl); clear hb; (try clear q0 q1); have q0 := S.out.c0; have q1 := S.out.c1) | (go_at_call_of 63 (Value.string ⟨#[83]⟩); refine (putT5 (by first | exact S.out.sa | exact S.out.drew.sa) _).mono ?_; rintro e w1 ⟨rfl, hb⟩; have S : Hid (BX w w1 b0 gn gi 6 cn ci nLT _) := (by first | exact S.out.put hb rfl | exact S.out.drew.put hb rfl); clear hb; (try clear q0 q1); have q0 := S.out.c0; have q1 := S.out.c1) | (go_at_call_of 59 (Value.string ⟨#[81]⟩); refine (sayT2 (by first | exact S.out.sa | exact S.out.drew.sa) _).mono ?_; rintro e w1 ⟨rfl, hb⟩; have S : Hid (BX w w1 b0 gn gi 6 cn ci nLT _) := (by first | exact S.out.put hb rfl | exact S.out.drew.put hb rfl); clear hb; (try clear q0 q1); have q0 := S.out.c0; have q1 := S.out.c1) | (go_at_call_of 59 (Value.string ⟨#[77]⟩); refine (sayT4 (by first | exact S.out.sa | exact S.out.drew.sa) _).mono ?_; rintro e w1 ⟨rfl, hb⟩; have S : Hid (BX w w1 b0 gn gi 6 cn ci nLT _) := (by first | exact S.out.put hb rfl | exact S.out.drew.put hb rfl); clear hb; (try clear q0 q1); have q0 := S.out.c0; have q1 := S.out.c1) | (go_at_call 64; refine (spent_of gn gi cn ci _ _ _ _ _ _ _ _ _ (by first | exact S.out.sa | exact S.out.drew.sa)).mono ?_; rintro e w1 ⟨rfl, hb⟩; (first | rw [if_pos hx.out] at hb | rw [if_neg hx.out] at hb | rw [if_neg (Int.not_le.2 hx.out)] at hb); have S : Hid (BX w w1 b0 gn gi 6 cn ci nLT _) := (by first | exact S.out.put hb rfl | exact S.out.drew.put hb rfl); clear hb; (try clear q0 q1); have q0 := S.out.c0; have q1 := S.out.c1) | (go_at_call 62; (first | refine (rises_r (nm := ⟨#[73, 78]⟩) (nn := ⟨#[77]⟩) (i := 0) (j := 4) (by first | exact S.out.sa | exact S.out.drew.sa) (at_b rfl) rfl (at_b rfl) rfl false rfl).mono ?_ | refine (rises_r (nm := ⟨#[73, 78]⟩) (nn := ⟨#[77]⟩) (i := 0) (j := 4) (by first | exact S.out.sa | exact S.out.drew.sa) (at_b rfl) rfl (at_b rfl) rfl true rfl).mono ?_); rintro e w1 ⟨rfl, hb⟩; have S : Hid (BX w w1 b0 gn gi 6 cn ci nLT _) := (by first | exact S.out.below hb | exact S.out.drew.below hb); clear hb; (try clear q0 q1); have q0 := S.out.c0; have q1 := S.out.c1) | (go_at_call 65; refine (since_of gn gi cn ci now _ _ _ _ _ _ _ (by first | exact S.out.sa | exact S.out.drew.sa) (by omega) (by omega)).mono ?_; rintro e w1 ⟨rfl, hb⟩; have S : Hid (BX w w1 b0 gn gi 6 cn ci nLT _) := (by first | exact S.out.below hb | exact S.out.drew.below hb); clear hb; (try clear q0 q1); have q0 := S.out.c0; have q1 := S.out.c1))
    go_end0
    refine ⟨rfl, S.out.ws.to ?_⟩
    have sp := SP.out
    unfold nxt
    (try unfold pQ)
    (try unfold pE)
    (try unfold els)
    (try unfold tN)
    first | (simp [*]; done) | (simp [*]; omega)
  · rcases HM.out with rfl | rfl
    by_cases hy : b ≤ sinc now now
    have D : Hid (decide (b ≤ sinc now now) = true) := decide_eq_true hy
    have hx : Hid (b ≤ sinc now now) := hy
    clear hy
    rotate_left 1
    have D : Hid (decide (b ≤ sinc now now) = false) := decide_eq_false hy
    have hx : Hid (¬ b ≤ sinc now now) := hy
    clear hy
    rotate_left 1
    by_cases hy : b ≤ sinc now s
    have D : Hid (decide (b ≤ sinc now s) = true) := decide_eq_true hy
    have hx : Hid (b ≤ sinc now s) := hy
    clear hy
    rotate_left 1
    have D : Hid (decide (b ≤ sinc now s) = false) := decide_eq_false hy
    have hx : Hid (¬ b ≤ sinc now s) := hy
    clear hy
    rotate_left 1
    all_goals
      have S0 : Hid (SA w gn gi 6 nLT _) := h
      clear h
      go_enter Tryd.func39, Tryd.ntmps39
      go_wp2_with fail
      have S : Hid (BX w (w.alloc (.cells #[.slice (some ⟨gn, 0, none⟩) 6 cn, .slice (some ⟨gi, 0, none⟩) 6 ci] 71)) w.heap.size gn gi 6 cn ci nLT _) := BX.new cn ci S0.out
      have q0 := S.out.c0
      have q1 := S.out.c1
      generalize w.alloc (.cells #[.slice (some ⟨gn, 0, none⟩) 6 cn, .slice (some ⟨gi, 0, none⟩) 6 ci] 71) = W0 at S q0 q1 ⊢
      generalize w.heap.size = b0 at S q0 q1 ⊢
      go_wp2_with (first | (go_at_call_of 60 (Value.string ⟨#[73, 78]⟩); (first | refine (isT0 (by first | exact S.out.sa | exact S.out.drew.sa) false rfl).mono ?_ | refine (isT0 (by first | exact S.out.sa | exact S.out.drew.sa) true rfl).mono ?_ | refine (isT0 (by first | exact S.out.sa | exact S.out.drew.sa) false (by rw [D.out]; rfl)).mono ?_ | refine (isT0 (by first | exact S.out.sa | exact S.out.drew.sa) true (by rw [D.out]; rfl)).mono ?_ | refine (isT0 (by first | exact S.out.sa | exact S.out.drew.sa) _ rfl).mono ?_); rintro e w1 ⟨rfl, hb⟩; have S : Hid (BX w w1 b0 gn gi 6 cn ci nLT _) := (by first | exact S.out.below hb | exact S.out.drew.below hb); clear hb; (try clear q0 q1); have q0 := S.out.c0; have q1 := S.out.c1) | (go_at_call_of 60 (Value.string ⟨#[81]⟩); (first | refine (isT2 (by first | exact S.out.sa | exact S.out.drew.sa) false rfl).mono ?_ | refine (isT2 (by first | exact S.out.sa | exact S.out.drew.sa) true rfl).mono ?_ | refine (isT2 (by first | exact S.out.sa | exact S.out.drew.sa) false (by rw [D.out]; rfl)).mono ?_ | refine (isT2 (by first | exact S.out.sa | exact S.out.drew.sa) true (by rw [D.out]; rfl)).mono ?_ | refine (isT2 (by first | exact S.out.sa | exact S.out.drew.sa) _ rfl).mono ?_); rintro e w1 ⟨rfl, hb⟩; have S : Hid (BX w w1 b0 gn gi 6 cn ci nLT _) := (by first | exact S.out.below hb | exact S.out.drew.below hb); clear hb; (try clear q0 q1); have q0 := S.out.c0; have q1 := S.out.c1) | (go_at_call_of 60 (Value.string ⟨#[77]⟩); (first | refine (isT4 (by first | exact S.out.sa | exact S.out.drew.sa) false rfl).mono ?_ | refine (isT4 (by first | exact S.out.sa | exact S.out.drew.sa) true rfl).mono ?_ | refine (isT4 (by first | exact S.out.sa | exact S.out.drew.sa) false (by rw [D.out]; rfl)).mono ?_ | refine (isT4 (by first | exact S.out.sa | exact S.out.drew.sa) true (by rw [D.out]; rfl)).mono ?_ | refine (isT4 (by first | exact S.out.sa | exact S.out.drew.sa) _ rfl).mono ?_); rintro e w1 ⟨rfl, hb⟩; have S : Hid (BX w w1 b0 gn gi 6 cn ci nLT _) := (by first | exact S.out.below hb | exact S.out.drew.below hb); clear hb; (try clear q0 q1); have q0 := S.out.c0; have q1 := S.out.c1) | (go_at_call_of 61 (Value.string ⟨#[80, 84]⟩); refine (getT1 (by first | exact S.out.sa | exact S.out.drew.sa)).mono ?_; rintro e w1 ⟨rfl, hb⟩; have S : Hid (BX w w1 b0 gn gi 6 cn ci nLT _) := (by first | exact S.out.below hb | exact S.out.drew.below hb); clear hb; (try clear q0 q1); have q0 := S.out.c0; have q1 := S.out.c1) | (go_at_call_of 63 (Value.string ⟨#[69, 84]⟩); refine (putT3 (by first | exact S.out.sa | exact S.out.drew.sa) _).mono ?_; rintro e w1 ⟨rfl, hb⟩; have S : Hid (BX w w1 b0 gn gi 6 cn ci nLT _) := (by first | exact S.out.put hb rfl | exact S.out.drew.put hb rfl); clear hb; (try clear q0 q1); have q0 := S.out.c0; have q1 := S.out.c1) | (go_at_call_of 63 (Value.string ⟨#[83]⟩); refine (putT5 (by first | exact S.out.sa | exact S.out.drew.sa) _).mono ?_; rintro e w1 ⟨rfl, hb⟩; have S : Hid (BX w w1 b0 gn gi 6 cn ci nLT _) := (by first | exact S.out.put hb rfl | exact S.out.drew.put hb rfl); clear hb; (try clear q0 q1); have q0 := S.out.c0; have q1 := S.out.c1) | (go_at_call_of 59 (Value.string ⟨#[81]⟩); refine (sayT2 (by first | exact S.out.sa | exact S.out.drew.sa) _).mono ?_; rintro e w1 ⟨rfl, hb⟩; have S : Hid (BX w w1 b0 gn gi 6 cn ci nLT _) := (by first | exact S.out.put hb rfl | exact S.out.drew.put hb rfl); clear hb; (try clear q0 q1); have q0 := S.out.c0; have q1 := S.out.c1) | (go_at_call_of 59 (Value.string ⟨#[77]⟩); refine (sayT4 (by first | exact S.out.sa | exact S.out.drew.sa) _).mono ?_; rintro e w1 ⟨rfl, hb⟩; have S : Hid (BX w w1 b0 gn gi 6 cn ci nLT _) := (by first | exact S.out.put hb rfl | exact S.out.drew.put hb rfl); clear hb; (try clear q0 q1); have q0 := S.out.c0; have q1 := S.out.c1) | (go_at_call 64; refine (spent_of gn gi cn ci _ _ _ _ _ _ _ _ _ (by first | exact S.out.sa | exact S.out.drew.sa)).mono ?_; rintro e w1 ⟨rfl, hb⟩; (first | rw [if_pos hx.out] at hb | rw [if_neg hx.out] at hb | rw [if_neg (Int.not_le.2 hx.out)] at hb); have S : Hid (BX w w1 b0 gn gi 6 cn ci nLT _) := (by first | exact S.out.put hb rfl | exact S.out.drew.put hb rfl); clear hb; (try clear q0 q1); have q0 := S.out.c0; have q1 := S.out.c1) | (go_at_call 62; (first | refine (rises_r (nm := ⟨#[73, 78]⟩) (nn := ⟨#[77]⟩) (i := 0) (j := 4) (by first | exact S.out.sa | exact S.out.drew.sa) (at_b rfl) rfl (at_b rfl) rfl false rfl).mono ?_ | refine (rises_r (nm := ⟨#[73, 78]⟩) (nn := ⟨#[77]⟩) (i := 0) (j := 4) (by first | exact S.out.sa | exact S.out.drew.sa) (at_b rfl) rfl (at_b rfl) rfl true rfl).mono ?_); rintro e w1 ⟨rfl, hb⟩; have S : Hid (BX w w1 b0 gn gi 6 cn ci nLT _) := (by first | exact S.out.below hb | exact S.out.drew.below hb); clear hb; (try clear q0 q1); have q0 := S.out.c0; have q1 := S.out.c1) | (go_at_call 65; refine (since_of gn gi cn ci now _ _ _ _ _ _ _ (by first | exact S.out.sa | exact S.out.drew.sa) (by omega) (by omega)).mono ?_; rintro e w1 ⟨rfl, hb⟩; have S : Hid (BX w w1 b0 gn gi 6 cn ci nLT _) := (by first | exact S.out.below hb | exact S.out.drew.below hb); clear hb; (try clear q0 q1); have q0 := S.out.c0; have q1 := S.out.c1))
      refine wp_region_last _ (by kernel_rfl) (by kernel_rfl) rfl ?_
      intro cx
      simp only [List.dropLast]
      have zb := S.out.bl
      repeat (first | go_big_quiet_skip | (go_big_quiet_want; go_big_quiet_op; first | go_big_quiet_on | (refine ⟨_, fun _ => rfl, ?_⟩; go_big_quiet_on) | go_big_quiet_call (first | (go_at_call_of 60 (Value.string ⟨#[73, 78]⟩); first | exact calls_sub (isT0 (S.out.sa.below (Sub.h _)) false rfl) | exact calls_sub (isT0 (S.out.sa.below (Sub.h _)) true rfl) | exact calls_sub (isT0 (S.out.sa.below (Sub.h _)) false (by rw [D.out]; rfl)) | exact calls_sub (isT0 (S.out.sa.below (Sub.h _)) true (by rw [D.out]; rfl)) | exact calls_sub (isT0 (S.out.sa.below (Sub.h _)) _ rfl)) | (go_at_call_of 60 (Value.string ⟨#[81]⟩); first | exact calls_sub (isT2 (S.out.sa.below (Sub.h _)) false rfl) | exact calls_sub (isT2 (S.out.sa.below (Sub.h _)) true rfl) | exact calls_sub (isT2 (S.out.sa.below (Sub.h _)) false (by rw [D.out]; rfl)) | exact calls_sub (isT2 (S.out.sa.below (Sub.h _)) true (by rw [D.out]; rfl)) | exact calls_sub (isT2 (S.out.sa.below (Sub.h _)) _ rfl)) | (go_at_call_of 60 (Value.string ⟨#[77]⟩); first | exact calls_sub (isT4 (S.out.sa.below (Sub.h _)) false rfl) | exact calls_sub (isT4 (S.out.sa.below (Sub.h _)) true rfl) | exact calls_sub (isT4 (S.out.sa.below (Sub.h _)) false (by rw [D.out]; rfl)) | exact calls_sub (isT4 (S.out.sa.below (Sub.h _)) true (by rw [D.out]; rfl)) | exact calls_sub (isT4 (S.out.sa.below (Sub.h _)) _ rfl)) | (go_at_call_of 61 (Value.string ⟨#[80, 84]⟩); exact calls_sub (getT1 (S.out.sa.below (Sub.h _)))) | (go_at_call 65; exact calls_sub (since_of gn gi cn ci now _ _ _ _ _ _ _ (S.out.sa.below (Sub.h _)) (by omega) (by omega))))))
      refine wpQuiet_nil ?_
      rintro _ ⟨y, rfl⟩
      clear cx
      have S : Hid (BX w y.w b0 gn gi 6 cn ci nLT _) := S.out.below y.h
      clear q0 q1 zb
      have q0 := S.out.c0
      have q1 := S.out.c1
      go_wp2_with (first | (go_at_call_of 60 (Value.string ⟨#[73, 78]⟩); (first | refine (isT0 (by first | exact S.out.sa | exact S.out.drew.sa) false rfl).mono ?_ | refine (isT0 (by first | exact S.out.sa | exact S.out.drew.sa) true rfl).mono ?_ | refine (isT0 (by first | exact S.out.sa | exact S.out.drew.sa) false (by rw [D.out]; rfl)).mono ?_ | refine (isT0 (by first | exact S.out.sa | exact S.out.drew.sa) true (by rw [D.out]; rfl)).mono ?_ | refine (isT0 (by first | exact S.out.sa | exact S.out.drew.sa) _ rfl).mono ?_); rintro e w1 ⟨rfl, hb⟩; have S : Hid (BX w w1 b0 gn gi 6 cn ci nLT _) := (by first | exact S.out.below hb | exact S.out.drew.below hb); clear hb; (try clear q0 q1); have q0 := S.out.c0; have q1 := S.out.c1) | (go_at_call_of 60 (Value.string ⟨#[81]⟩); (first | refine (isT2 (by first | exact S.out.sa | exact S.out.drew.sa) false rfl).mono ?_ | refine (isT2 (by first | exact S.out.sa | exact S.out.drew.sa) true rfl).mono ?_ | refine (isT2 (by first | exact S.out.sa | exact S.out.drew.sa) false (by rw [D.out]; rfl)).mono ?_ | refine (isT2 (by first | exact S.out.sa | exact S.out.drew.sa) true (by rw [D.out]; rfl)).mono ?_ | refine (isT2 (by first | exact S.out.sa | exact S.out.drew.sa) _ rfl).mono ?_); rintro e w1 ⟨rfl, hb⟩; have S : Hid (BX w w1 b0 gn gi 6 cn ci nLT _) := (by first | exact S.out.below hb | exact S.out.drew.below hb); clear hb; (try clear q0 q1); have q0 := S.out.c0; have q1 := S.out.c1) | (go_at_call_of 60 (Value.string ⟨#[77]⟩); (first | refine (isT4 (by first | exact S.out.sa | exact S.out.drew.sa) false rfl).mono ?_ | refine (isT4 (by first | exact S.out.sa | exact S.out.drew.sa) true rfl).mono ?_ | refine (isT4 (by first | exact S.out.sa | exact S.out.drew.sa) false (by rw [D.out]; rfl)).mono ?_ | refine (isT4 (by first | exact S.out.sa | exact S.out.drew.sa) true (by rw [D.out]; rfl)).mono ?_ | refine (isT4 (by first | exact S.out.sa | exact S.out.drew.sa) _ rfl).mono ?_); rintro e w1 ⟨rfl, hb⟩; have S : Hid (BX w w1 b0 gn gi 6 cn ci nLT _) := (by first | exact S.out.below hb | exact S.out.drew.below hb); clear hb; (try clear q0 q1); have q0 := S.out.c0; have q1 := S.out.c1) | (go_at_call_of 61 (Value.string ⟨#[80, 84]⟩); refine (getT1 (by first | exact S.out.sa | exact S.out.drew.sa)).mono ?_; rintro e w1 ⟨rfl, hb⟩; have S : Hid (BX w w1 b0 gn gi 6 cn ci nLT _) := (by first | exact S.out.below hb | exact S.out.drew.below hb); clear hb; (try clear q0 q1); have q0 := S.out.c0; have q1 := S.out.c1) | (go_at_call_of 63 (Value.string ⟨#[69, 84]⟩); refine (putT3 (by first | exact S.out.sa | exact S.out.drew.sa) _).mono ?_; rintro e w1 ⟨rfl, hb⟩; have S : Hid (BX w w1 b0 gn gi 6 cn ci nLT _) := (by first | exact S.out.put hb rfl | exact S.out.drew.put hb rfl); clear hb; (try clear q0 q1); have q0 := S.out.c0; have q1 := S.out.c1) | (go_at_call_of 63 (Value.string ⟨#[83]⟩); refine (putT5 (by first | exact S.out.sa | exact S.out.drew.sa) _).mono ?_; rintro e w1 ⟨rfl, hb⟩; have S : Hid (BX w w1 b0 gn gi 6 cn ci nLT _) := (by first | exact S.out.put hb rfl | exact S.out.drew.put hb rfl); clear hb; (try clear q0 q1); have q0 := S.out.c0; have q1 := S.out.c1) | (go_at_call_of 59 (Value.string ⟨#[81]⟩); refine (sayT2 (by first | exact S.out.sa | exact S.out.drew.sa) _).mono ?_; rintro e w1 ⟨rfl, hb⟩; have S : Hid (BX w w1 b0 gn gi 6 cn ci nLT _) := (by first | exact S.out.put hb rfl | exact S.out.drew.put hb rfl); clear hb; (try clear q0 q1); have q0 := S.out.c0; have q1 := S.out.c1) | (go_at_call_of 59 (Value.string ⟨#[77]⟩); refine (sayT4 (by first | exact S.out.sa | exact S.out.drew.sa) _).mono ?_; rintro e w1 ⟨rfl, hb⟩; have S : Hid (BX w w1 b0 gn gi 6 cn ci nLT _) := (by first | exact S.out.put hb rfl | exact S.out.drew.put hb rfl); clear hb; (try clear q0 q1); have q0 := S.out.c0; have q1 := S.out.c1) | (go_at_call 64; refine (spent_of gn gi cn ci _ _ _ _ _ _ _ _ _ (by first | exact S.out.sa | exact S.out.drew.sa)).mono ?_; rintro e w1 ⟨rfl, hb⟩; (first | rw [if_pos hx.out] at hb | rw [if_neg hx.out] at hb | rw [if_neg (Int.not_le.2 hx.out)] at hb); have S : Hid (BX w w1 b0 gn gi 6 cn ci nLT _) := (by first | exact S.out.put hb rfl | exact S.out.drew.put hb rfl); clear hb; (try clear q0 q1); have q0 := S.out.c0; have q1 := S.out.c1) | (go_at_call 62; (first | refine (rises_r (nm := ⟨#[73, 78]⟩) (nn := ⟨#[77]⟩) (i := 0) (j := 4) (by first | exact S.out.sa | exact S.out.drew.sa) (at_b rfl) rfl (at_b rfl) rfl false rfl).mono ?_ | refine (rises_r (nm := ⟨#[73, 78]⟩) (nn := ⟨#[77]⟩) (i := 0) (j := 4) (by first | exact S.out.sa | exact S.out.drew.sa) (at_b rfl) rfl (at_b rfl) rfl true rfl).mono ?_); rintro e w1 ⟨rfl, hb⟩; have S : Hid (BX w w1 b0 gn gi 6 cn ci nLT _) := (by first | exact S.out.below hb | exact S.out.drew.below hb); clear hb; (try clear q0 q1); have q0 := S.out.c0; have q1 := S.out.c1) | (go_at_call 65; refine (since_of gn gi cn ci now _ _ _ _ _ _ _ (by first | exact S.out.sa | exact S.out.drew.sa) (by omega) (by omega)).mono ?_; rintro e w1 ⟨rfl, hb⟩; have S : Hid (BX w w1 b0 gn gi 6 cn ci nLT _) := (by first | exact S.out.below hb | exact S.out.drew.below hb); clear hb; (try clear q0 q1); have q0 := S.out.c0; have q1 := S.out.c1))
      refine wp_region_last _ (by kernel_rfl) (by kernel_rfl) rfl ?_
      intro cx
      simp only [List.dropLast]
      have zb := S.out.bl
      repeat (first | go_big_quiet_skip | (go_big_quiet_want; go_big_quiet_op; first | go_big_quiet_on | (refine ⟨_, fun _ => rfl, ?_⟩; go_big_quiet_on) | go_big_quiet_call (first | (go_at_call_of 60 (Value.string ⟨#[73, 78]⟩); first | exact calls_sub (isT0 (S.out.sa.below (Sub.h _)) false rfl) | exact calls_sub (isT0 (S.out.sa.below (Sub.h _)) true rfl) | exact calls_sub (isT0 (S.out.sa.below (Sub.h _)) false (by rw [D.out]; rfl)) | exact calls_sub (isT0 (S.out.sa.below (Sub.h _)) true (by rw [D.out]; rfl)) | exact calls_sub (isT0 (S.out.sa.below (Sub.h _)) _ rfl)) | (go_at_call_of 60 (Value.string ⟨#[81]⟩); first | exact calls_sub (isT2 (S.out.sa.below (Sub.h _)) false rfl) | exact calls_sub (isT2 (S.out.sa.below (Sub.h _)) true rfl) | exact calls_sub (isT2 (S.out.sa.below (Sub.h _)) false (by rw [D.out]; rfl)) | exact calls_sub (isT2 (S.out.sa.below (Sub.h _)) true (by rw [D.out]; rfl)) | exact calls_sub (isT2 (S.out.sa.below (Sub.h _)) _ rfl)) | (go_at_call_of 60 (Value.string ⟨#[77]⟩); first | exact calls_sub (isT4 (S.out.sa.below (Sub.h _)) false rfl) | exact calls_sub (isT4 (S.out.sa.below (Sub.h _)) true rfl) | exact calls_sub (isT4 (S.out.sa.below (Sub.h _)) false (by rw [D.out]; rfl)) | exact calls_sub (isT4 (S.out.sa.below (Sub.h _)) true (by rw [D.out]; rfl)) | exact calls_sub (isT4 (S.out.sa.below (Sub.h _)) _ rfl)) | (go_at_call_of 61 (Value.string ⟨#[80, 84]⟩); exact calls_sub (getT1 (S.out.sa.below (Sub.h _)))) | (go_at_call 65; exact calls_sub (since_of gn gi cn ci now _ _ _ _ _ _ _ (S.out.sa.below (Sub.h _)) (by omega) (by omega))))))
      refine wpQuiet_nil ?_
      rintro _ ⟨y, rfl⟩
      clear cx
      have S : Hid (BX w y.w b0 gn gi 6 cn ci nLT _) := S.out.below y.h
      clear q0 q1 zb
      have q0 := S.out.c0
      have q1 := S.out.c1
      go_wp2_with (first | (go_at_call_of 60 (Value.string ⟨#[73, 78]⟩); (first | refine (isT0 (by first | exact S.out.sa | exact S.out.drew.sa) false rfl).mono ?_ | refine (isT0 (by first | exact S.out.sa | exact S.out.drew.sa) true rfl).mono ?_ | refine (isT0 (by first | exact S.out.sa | exact S.out.drew.sa) false (by rw [D.out]; rfl)).mono ?_ | refine (isT0 (by first | exact S.out.sa | exact S.out.drew.sa) true (by rw [D.out]; rfl)).mono ?_ | refine (isT0 (by first | exact S.out.sa | exact S.out.drew.sa) _ rfl).mono ?_); rintro e w1 ⟨rfl, hb⟩; have S : Hid (BX w w1 b0 gn gi 6 cn ci nLT _) := (by first | exact S.out.below hb | exact S.out.drew.below hb); clear hb; (try clear q0 q1); have q0 := S.out.c0; have q1 := S.out.c1) | (go_at_call_of 60 (Value.string ⟨#[81]⟩); (first | refine (isT2 (by first | exact S.out.sa | exact S.out.drew.sa) false rfl).mono ?_ | refine (isT2 (by first | exact S.out.sa | exact S.out.drew.sa) true rfl).mono ?_ | refine (isT2 (by first | exact S.out.sa | exact S.out.drew.sa) false (by rw [D.out]; rfl)).mono ?_ | refine (isT2 (by first | exact S.out.sa | exact S.out.drew.sa) true (by rw [D.out]; rfl)).mono ?_ | refine (isT2 (by first | exact S.out.sa | exact S.out.drew.sa) _ rfl).mono ?_); rintro e w1 ⟨rfl, hb⟩; have S : Hid (BX w w1 b0 gn gi 6 cn ci nLT _) := (by first | exact S.out.below hb | exact S.out.drew.below hb); clear hb; (try clear q0 q1); have q0 := S.out.c0; have q1 := S.out.c1) | (go_at_call_of 60 (Value.string ⟨#[77]⟩); (first | refine (isT4 (by first | exact S.out.sa | exact S.out.drew.sa) false rfl).mono ?_ | refine (isT4 (by first | exact S.out.sa | exact S.out.drew.sa) true rfl).mono ?_ | refine (isT4 (by first | exact S.out.sa | exact S.out.drew.sa) false (by rw [D.out]; rfl)).mono ?_ | refine (isT4 (by first | exact S.out.sa | exact S.out.drew.sa) true (by rw [D.out]; rfl)).mono ?_ | refine (isT4 (by first | exact S.out.sa | exact S.out.drew.sa) _ rfl).mono ?_); rintro e w1 ⟨rfl, hb⟩; have S : Hid (BX w w1 b0 gn gi 6 cn ci nLT _) := (by first | exact S.out.below hb | exact S.out.drew.below hb); clear hb; (try clear q0 q1); have q0 := S.out.c0; have q1 := S.out.c1) | (go_at_call_of 61 (Value.string ⟨#[80, 84]⟩); refine (getT1 (by first | exact S.out.sa | exact S.out.drew.sa)).mono ?_; rintro e w1 ⟨rfl, hb⟩; have S : Hid (BX w w1 b0 gn gi 6 cn ci nLT _) := (by first | exact S.out.below hb | exact S.out.drew.below hb); clear hb; (try clear q0 q1); have q0 := S.out.c0; have q1 := S.out.c1) | (go_at_call_of 63 (Value.string ⟨#[69, 84]⟩); refine (putT3 (by first | exact S.out.sa | exact S.out.drew.sa) _).mono ?_; rintro e w1 ⟨rfl, hb⟩; have S : Hid (BX w w1 b0 gn gi 6 cn ci nLT _) := (by first | exact S.out.put hb rfl | exact S.out.drew.put hb rfl); clear hb; (try clear q0 q1); have q0 := S.out.c0; have q1 := S.out.c1) | (go_at_call_of 63 (Value.string ⟨#[83]⟩); refine (putT5 (by first | exact S.out.sa | exact S.out.drew.sa) _).mono ?_; rintro e w1 ⟨rfl, hb⟩; have S : Hid (BX w w1 b0 gn gi 6 cn ci nLT _) := (by first | exact S.out.put hb rfl | exact S.out.drew.put hb rfl); clear hb; (try clear q0 q1); have q0 := S.out.c0; have q1 := S.out.c1) | (go_at_call_of 59 (Value.string ⟨#[81]⟩); refine (sayT2 (by first | exact S.out.sa | exact S.out.drew.sa) _).mono ?_; rintro e w1 ⟨rfl, hb⟩; have S : Hid (BX w w1 b0 gn gi 6 cn ci nLT _) := (by first | exact S.out.put hb rfl | exact S.out.drew.put hb rfl); clear hb; (try clear q0 q1); have q0 := S.out.c0; have q1 := S.out.c1) | (go_at_call_of 59 (Value.string ⟨#[77]⟩); refine (sayT4 (by first | exact S.out.sa | exact S.out.drew.sa) _).mono ?_; rintro e w1 ⟨rfl, hb⟩; have S : Hid (BX w w1 b0 gn gi 6 cn ci nLT _) := (by first | exact S.out.put hb rfl | exact S.out.drew.put hb rfl); clear hb; (try clear q0 q1); have q0 := S.out.c0; have q1 := S.out.c1) | (go_at_call 64; refine (spent_of gn gi cn ci _ _ _ _ _ _ _ _ _ (by first | exact S.out.sa | exact S.out.drew.sa)).mono ?_; rintro e w1 ⟨rfl, hb⟩; (first | rw [if_pos hx.out] at hb | rw [if_neg hx.out] at hb | rw [if_neg (Int.not_le.2 hx.out)] at hb); have S : Hid (BX w w1 b0 gn gi 6 cn ci nLT _) := (by first | exact S.out.put hb rfl | exact S.out.drew.put hb rfl); clear hb; (try clear q0 q1); have q0 := S.out.c0; have q1 := S.out.c1) | (go_at_call 62; (first | refine (rises_r (nm := ⟨#[73, 78]⟩) (nn := ⟨#[77]⟩) (i := 0) (j := 4) (by first | exact S.out.sa | exact S.out.drew.sa) (at_b rfl) rfl (at_b rfl) rfl false rfl).mono ?_ | refine (rises_r (nm := ⟨#[73, 78]⟩) (nn := ⟨#[77]⟩) (i := 0) (j := 4) (by first | exact S.out.sa | exact S.out.drew.sa) (at_b rfl) rfl (at_b rfl) rfl true rfl).mono ?_); rintro e w1 ⟨rfl, hb⟩; have S : Hid (BX w w1 b0 gn gi 6 cn ci nLT _) := (by first | exact S.out.below hb | exact S.out.drew.below hb); clear hb; (try clear q0 q1); have q0 := S.out.c0; have q1 := S.out.c1) | (go_at_call 65; refine (since_of gn gi cn ci now _ _ _ _ _ _ _ (by first | exact S.out.sa | exact S.out.drew.sa) (by omega) (by omega)).mono ?_; rintro e w1 ⟨rfl, hb⟩; have S : Hid (BX w w1 b0 gn gi 6 cn ci nLT _) := (by first | exact S.out.below hb | exact S.out.drew.below hb); clear hb; (try clear q0 q1); have q0 := S.out.c0; have q1 := S.out.c1))
      refine wp_region_last _ (by kernel_rfl) (by kernel_rfl) rfl ?_
      intro cx
      simp only [List.dropLast]
      have zb := S.out.bl
      repeat (first | go_big_quiet_skip | (go_big_quiet_want; go_big_quiet_op; first | go_big_quiet_on | (refine ⟨_, fun _ => rfl, ?_⟩; go_big_quiet_on) | go_big_quiet_call (first | (go_at_call_of 60 (Value.string ⟨#[73, 78]⟩); first | exact calls_sub (isT0 (S.out.sa.below (Sub.h _)) false rfl) | exact calls_sub (isT0 (S.out.sa.below (Sub.h _)) true rfl) | exact calls_sub (isT0 (S.out.sa.below (Sub.h _)) false (by rw [D.out]; rfl)) | exact calls_sub (isT0 (S.out.sa.below (Sub.h _)) true (by rw [D.out]; rfl)) | exact calls_sub (isT0 (S.out.sa.below (Sub.h _)) _ rfl)) | (go_at_call_of 60 (Value.string ⟨#[81]⟩); first | exact calls_sub (isT2 (S.out.sa.below (Sub.h _)) false rfl) | exact calls_sub (isT2 (S.out.sa.below (Sub.h _)) true rfl) | exact calls_sub (isT2 (S.out.sa.below (Sub.h _)) false (by rw [D.out]; rfl)) | exact calls_sub (isT2 (S.out.sa.below (Sub.h _)) true (by rw [D.out]; rfl)) | exact calls_sub (isT2 (S.out.sa.below (Sub.h _)) _ rfl)) | (go_at_call_of 60 (Value.string ⟨#[77]⟩); first | exact calls_sub (isT4 (S.out.sa.below (Sub.h _)) false rfl) | exact calls_sub (isT4 (S.out.sa.below (Sub.h _)) true rfl) | exact calls_sub (isT4 (S.out.sa.below (Sub.h _)) false (by rw [D.out]; rfl)) | exact calls_sub (isT4 (S.out.sa.below (Sub.h _)) true (by rw [D.out]; rfl)) | exact calls_sub (isT4 (S.out.sa.below (Sub.h _)) _ rfl)) | (go_at_call_of 61 (Value.string ⟨#[80, 84]⟩); exact calls_sub (getT1 (S.out.sa.below (Sub.h _)))) | (go_at_call 65; exact calls_sub (since_of gn gi cn ci now _ _ _ _ _ _ _ (S.out.sa.below (Sub.h _)) (by omega) (by omega))))))
      refine wpQuiet_nil ?_
      rintro _ ⟨y, rfl⟩
      clear cx
      have S : Hid (BX w y.w b0 gn gi 6 cn ci nLT _) := S.out.below y.h
      clear q0 q1 zb
      have q0 := S.out.c0
      have q1 := S.out.c1
      go_wp2_with (first | (go_at_call_of 60 (Value.string ⟨#[73, 78]⟩); (first | refine (isT0 (by first | exact S.out.sa | exact S.out.drew.sa) false rfl).mono ?_ | refine (isT0 (by first | exact S.out.sa | exact S.out.drew.sa) true rfl).mono ?_ | refine (isT0 (by first | exact S.out.sa | exact S.out.drew.sa) false (by rw [D.out]; rfl)).mono ?_ | refine (isT0 (by first | exact S.out.sa | exact S.out.drew.sa) true (by rw [D.out]; rfl)).mono ?_ | refine (isT0 (by first | exact S.out.sa | exact S.out.drew.sa) _ rfl).mono ?_); rintro e w1 ⟨rfl, hb⟩; have S : Hid (BX w w1 b0 gn gi 6 cn ci nLT _) := (by first | exact S.out.below hb | exact S.out.drew.below hb); clear hb; (try clear q0 q1); have q0 := S.out.c0; have q1 := S.out.c1) | (go_at_call_of 60 (Value.string ⟨#[81]⟩); (first | refine (isT2 (by first | exact S.out.sa | exact S.out.drew.sa) false rfl).mono ?_ | refine (isT2 (by first | exact S.out.sa | exact S.out.drew.sa) true rfl).mono ?_ | refine (isT2 (by first | exact S.out.sa | exact S.out.drew.sa) false (by rw [D.out]; rfl)).mono ?_ | refine (isT2 (by first | exact S.out.sa | exact S.out.drew.sa) true (by rw [D.out]; rfl)).mono ?_ | refine (isT2 (by first | exact S.out.sa | exact S.out.drew.sa) _ rfl).mono ?_); rintro e w1 ⟨rfl, hb⟩; have S : Hid (BX w w1 b0 gn gi 6 cn ci nLT _) := (by first | exact S.out.below hb | exact S.out.drew.below hb); clear hb; (try clear q0 q1); have q0 := S.out.c0; have q1 := S.out.c1) | (go_at_call_of 60 (Value.string ⟨#[77]⟩); (first | refine (isT4 (by first | exact S.out.sa | exact S.out.drew.sa) false rfl).mono ?_ | refine (isT4 (by first | exact S.out.sa | exact S.out.drew.sa) true rfl).mono ?_ | refine (isT4 (by first | exact S.out.sa | exact S.out.drew.sa) false (by rw [D.out]; rfl)).mono ?_ | refine (isT4 (by first | exact S.out.sa | exact S.out.drew.sa) true (by rw [D.out]; rfl)).mono ?_ | refine (isT4 (by first | exact S.out.sa | exact S.out.drew.sa) _ rfl).mono ?_); rintro e w1 ⟨rfl, hb⟩; have S : Hid (BX w w1 b0 gn gi 6 cn ci nLT _) := (by first | exact S.out.below hb | exact S.out.drew.below hb); clear hb; (try clear q0 q1); have q0 := S.out.c0; have q1 := S.out.c1) | (go_at_call_of 61 (Value.string ⟨#[80, 84]⟩); refine (getT1 (by first | exact S.out.sa | exact S.out.drew.sa)).mono ?_; rintro e w1 ⟨rfl, hb⟩; have S : Hid (BX w w1 b0 gn gi 6 cn ci nLT _) := (by first | exact S.out.below hb | exact S.out.drew.below hb); clear hb; (try clear q0 q1); have q0 := S.out.c0; have q1 := S.out.c1) | (go_at_call_of 63 (Value.string ⟨#[69, 84]⟩); refine (putT3 (by first | exact S.out.sa | exact S.out.drew.sa) _).mono ?_; rintro e w1 ⟨rfl, hb⟩; have S : Hid (BX w w1 b0 gn gi 6 cn ci nLT _) := (by first | exact S.out.put hb rfl | exact S.out.drew.put hb rfl); clear hb; (try clear q0 q1); have q0 := S.out.c0; have q1 := S.out.c1) | (go_at_call_of 63 (Value.string ⟨#[83]⟩); refine (putT5 (by first | exact S.out.sa | exact S.out.drew.sa) _).mono ?_; rintro e w1 ⟨rfl, hb⟩; have S : Hid (BX w w1 b0 gn gi 6 cn ci nLT _) := (by first | exact S.out.put hb rfl | exact S.out.drew.put hb rfl); clear hb; (try clear q0 q1); have q0 := S.out.c0; have q1 := S.out.c1) | (go_at_call_of 59 (Value.string ⟨#[81]⟩); refine (sayT2 (by first | exact S.out.sa | exact S.out.drew.sa) _).mono ?_; rintro e w1 ⟨rfl, hb⟩; have S : Hid (BX w w1 b0 gn gi 6 cn ci nLT _) := (by first | exact S.out.put hb rfl | exact S.out.drew.put hb rfl); clear hb; (try clear q0 q1); have q0 := S.out.c0; have q1 := S.out.c1) | (go_at_call_of 59 (Value.string ⟨#[77]⟩); refine (sayT4 (by first | exact S.out.sa | exact S.out.drew.sa) _).mono ?_; rintro e w1 ⟨rfl, hb⟩; have S : Hid (BX w w1 b0 gn gi 6 cn ci nLT _) := (by first | exact S.out.put hb rfl | exact S.out.drew.put hb rfl); clear hb; (try clear q0 q1); have q0 := S.out.c0; have q1 := S.out.c1) | (go_at_call 64; refine (spent_of gn gi cn ci _ _ _ _ _ _ _ _ _ (by first | exact S.out.sa | exact S.out.drew.sa)).mono ?_; rintro e w1 ⟨rfl, hb⟩; (first | rw [if_pos hx.out] at hb | rw [if_neg hx.out] at hb | rw [if_neg (Int.not_le.2 hx.out)] at hb); have S : Hid (BX w w1 b0 gn gi 6 cn ci nLT _) := (by first | exact S.out.put hb rfl | exact S.out.drew.put hb rfl); clear hb; (try clear q0 q1); have q0 := S.out.c0; have q1 := S.out.c1) | (go_at_call 62; (first | refine (rises_r (nm := ⟨#[73, 78]⟩) (nn := ⟨#[77]⟩) (i := 0) (j := 4) (by first | exact S.out.sa | exact S.out.drew.sa) (at_b rfl) rfl (at_b rfl) rfl false rfl).mono ?_ | refine (rises_r (nm := ⟨#[73, 78]⟩) (nn := ⟨#[77]⟩) (i := 0) (j := 4) (by first | exact S.out.sa | exact S.out.drew.sa) (at_b rfl) rfl (at_b rfl) rfl true rfl).mono ?_); rintro e w1 ⟨rfl, hb⟩; have S : Hid (BX w w1 b0 gn gi 6 cn ci nLT _) := (by first | exact S.out.below hb | exact S.out.drew.below hb); clear hb; (try clear q0 q1); have q0 := S.out.c0; have q1 := S.out.c1) | (go_at_call 65; refine (since_of gn gi cn ci now _ _ _ _ _ _ _ (by first | exact S.out.sa | exact S.out.drew.sa) (by omega) (by omega)).mono ?_; rintro e w1 ⟨rfl, hb⟩; have S : Hid (BX w w1 b0 gn gi 6 cn ci nLT _) := (by first | exact S.out.below hb | exact S.out.drew.below hb); clear hb; (try clear q0 q1); have q0 := S.out.c0; have q1 := S.out.c1))
      go_end0
      refine ⟨rfl, S.out.ws.to ?_⟩
      have sp := SP.out
      have hx' := hx.out
      unfold nxt
      (try unfold pQ)
      (try unfold pE)
      (try unfold els)
      (try unfold tN)
      first | (simp [*]; done) | (simp [*]; omega)
end Go.Proofs.YtjnegbjgogkamaaDoor
namespace Go.Proofs.YtjnegbjgogkamaaDoor
set_option linter.unusedVariables false
open Go.RowKit
/-- What a step does with the numbers of block 9. -/
theorem dsp_9 (gn gi cn ci : Nat) (v : Nat → Vl) (cz : Int) (hz : 0 ≤ cz ∧ cz ≤ 4611686018427387904) (w : World) (h : SA w gn gi 6 nLT (nmL 6 v)) (P : ∀ i, i < 6 → okN (kAt ksT i) (vN v i)) :
    Calls Tryd.prog 39 #[SV gn gi 6 cn ci, .int .i64 9, .int .i64 cz] w fun e w' => e = .returned (.tuple #[]) ∧ Ws w w' gi (nxt 9 cz (nmL 6 v)) := by
  have e : nmL 6 v = [vN v 0, vN v 1, vN v 2, vN v 3, vN v 4, vN v 5] := rfl
  rw [e] at h ⊢
  by_cases c : vN v 1 < 0
  · exact time_9n gn gi cn ci cz _ _ _ _ _ _ w h ((P 0 (by decide)).1 rfl) ((P 2 (by decide)).1 rfl) ((P 4 (by decide)).1 rfl) ((P 3 (by decide)).2.2 rfl) ((P 5 (by decide)).2.2 rfl) hz c
  · exact time_9p gn gi cn ci cz _ _ _ _ _ _ w h ((P 0 (by decide)).1 rfl) ((P 2 (by decide)).1 rfl) ((P 4 (by decide)).1 rfl) ((P 3 (by decide)).2.2 rfl) ((P 5 (by decide)).2.2 rfl) hz (by omega) ((P 1 (by decide)).2.2 rfl).2
set_option maxRecDepth 20000 in
set_option maxHeartbeats 16000000 in
theorem StepR_9 (a : Addr) (cap : Nat) (v : Nat → Vl) (now : Int) (w : World) (hv : VsAt w a 6 v) (ho : ∀ i, i < 6 → VlOk (v i)) :
    Calls Tryd.prog 21 #[.int .i64 9, .slice (some a) 6 cap, .int .i64 now] w fun e w' => (tkB ksT v 6 = true → ∃ g c, e = .returned (.tuple #[.slice (some ⟨g, 0, none⟩) 6 c, .int .i64 0]) ∧ w.heap.size ≤ g ∧ Row3 w' g 6 (vlL ksT (nxt 9 (clN now) (nmL 6 v)))) ∧ (tkB ksT v 6 = false → e = .returned (.tuple #[.slice none 0 0, .int .i64 8])) ∧ Below w.heap.size w w' := by
  have HV : Hid (VsAt w a 6 v) := hv
  have HO : Hid (∀ i, i < 6 → VlOk (v i)) := ho
  clear hv ho
  have I1 : Hid (∃ i, Tryd.prog.info? 9 = some i ∧ i.zero = some (.string ⟨#[]⟩) ∧ i.size = 1 ∧ i.bytes = 16) := by
    obtain ⟨i, hi, hz⟩ := Option.map_eq_some_iff.1 (show (Tryd.prog.info? 9).map (fun i => (i.zero, i.size, i.bytes)) = some (some (.string ⟨#[]⟩), 1, 16) by kernel_rfl)
    simp only [Prod.mk.injEq] at hz
    exact ⟨i, hi, hz.1, hz.2.1, hz.2.2⟩
  have I2 : Hid (∃ i, Tryd.prog.info? 3 = some i ∧ i.zero = some (.int .i64 0) ∧ i.size = 1 ∧ i.bytes = 8) := by
    obtain ⟨i, hi, hz⟩ := Option.map_eq_some_iff.1 (show (Tryd.prog.info? 3).map (fun i => (i.zero, i.size, i.bytes)) = some (some (.int .i64 0), 1, 8) by kernel_rfl)
    simp only [Prod.mk.injEq] at hz
    exact ⟨i, hi, hz.1, hz.2.1, hz.2.2⟩
  have I3 : Hid (∃ i, Tryd.prog.info? 34 = some i ∧ i.zero = some (.agg #[.int .u8 0, .int .u64 0, .string ⟨#[]⟩]) ∧ i.size = 3 ∧ i.bytes = 32) := by
    obtain ⟨i, hi, hz⟩ := Option.map_eq_some_iff.1 (show (Tryd.prog.info? 34).map (fun i => (i.zero, i.size, i.bytes)) = some (some (.agg #[.int .u8 0, .int .u64 0, .string ⟨#[]⟩]), 3, 32) by kernel_rfl)
    simp only [Prod.mk.injEq] at hz
    exact ⟨i, hi, hz.1, hz.2.1, hz.2.2⟩
  go_enter Tryd.func21, Tryd.ntmps21
  go_wp2_with fail
  refine (VarsR_9 _).mono ?_
  rintro e w1 ⟨gl, cl, rfl, hgl, hvr, hb1⟩
  have zl : gl < w1.heap.size := block_lt_of_cell (a := ⟨gl, 0 * 16 + 0, none⟩) (hvr 0 (by decide) 0 (by decide))
  have NK : Hid (VNK w1 gl 6 nLT ksT) := fun i hi => ⟨hvr i hi 0 (by decide), hvr i hi 3 (by decide)⟩
  have HB1 : Hid (Below w.heap.size w w1) := hb1
  have HV1 : Hid (VsAt w1 a 6 v) := HV.out.below hb1
  clear hvr hb1 HV
  go_wp2_with fail
  go_loopw [10] (fun i wr => ∃ (k : Nat) (vN vI : Value), k ≤ 6 ∧ i = .int .i64 k ∧ Rws w1 wr w1.heap.size vN vI k k nLT v ∧ (∀ j, j < k → (v j).k = kAt ksT j ∧ may3 (v j).k (v j).b (v j).s = true)) (fun i _ => 6 - (intOf i).toNat)
  case atStart => exact ⟨0, _, _, Nat.zero_le _, rfl, ⟨heap_alloc_last w1 _, ⟨rfl, .inl ⟨rfl, rfl⟩⟩, ⟨rfl, .inl ⟨rfl, rfl⟩⟩, (Below.refl _ _).alloc (Nat.le_refl _) _, Nat.le_refl _⟩, fun j hj => absurd hj (Nat.not_lt_zero _)⟩
  case round =>
    obtain ⟨k, vN, vI, hk, rfl, hrw, hall⟩ := hrel
    have HR : Hid (Rws w1 wr w1.heap.size vN vI k k nLT v) := hrw
    have hb := hrw.bl
    have HB : Hid (Below w1.heap.size w1 wr) := hb
    have HA : Hid (∀ j, j < k → (v j).k = kAt ksT j ∧ may3 (v j).k (v j).b (v j).s = true) := hall
    have HBw : Hid (Below w.heap.size w wr) := HB1.out.trans (hb.mono HB1.out.size)
    have NKr : Hid (VNK wr gl 6 nLT ksT) := NK.out.below zl hb
    have zb : w1.heap.size < wr.heap.size := lt_of_block hrw.bx
    by_cases hlt : k < 6
    · obtain ⟨d0, d1, d2⟩ := HV1.out.below hb k hlt
      obtain ⟨e0, e3⟩ := NKr.out k hlt
      have O : Hid _ := HO.out k hlt
      have zg : gl < wr.heap.size := by omega
      have za := block_lt_of_cell d0
      clear hrw hall hb
      have hlt' : (k : Int) < 6 := by omega
      have NV : Hid (may3 (v k).k (v k).b (v k).s = true → (v k).k = kAt ksT k → wrap64 (v k).b = nmV (v k).k (v k).b) := fun m e => wrap_nm O.out.b0 m (by rw [e]; exact kAt_cases _ _)
      generalize hvk : v k = vk at *
      obtain ⟨vk, vb, vs⟩ := vk
      have HVK : Hid (v k = ⟨vk, vb, vs⟩) := hvk
      clear hvk
      by_cases e : vk = kAt ksT k
      · have e1 : (vk != kAt ksT k) = false := by simpa using e
        have e2 : (vk == kAt ksT k) = true := by simpa using e
        have E : Hid (vk = kAt ksT k) := e
        clear e
        cases m : may3 vk vb vs
        · have M : Hid (may3 vk vb vs = false) := m
          go_wp2_with fail
          have cy : ∀ x : Sub wr, x.w.cell? (a.add (k * 3)) = some (.int .u8 vk) := fun x => (x.h.cell za).trans d0
          refine wp_region_sub2 (by kernel_rfl) (by kernel_rfl) ?_
          intro cx
          repeat (first | go_big_quiet_skip | (go_big_quiet_want; go_big_quiet_op; first | go_big_quiet_on | (refine ⟨_, fun _ => rfl, ?_⟩; go_big_quiet_on) | go_big_quiet_call (first | (go_at_call 36; exact calls_sub (MayR_of _ _ _ _ O.out.b0 O.out.b1 ⟨O.out.k0, O.out.k1⟩ O.out.s1)))))
          refine wpQuiet_nil ?_
          rintro _ ⟨y, rfl⟩
          have Y : Hid (Below wr.heap.size wr y.w) := y.h
          clear cx cy
          go_wp2
          go_ret2
          exact ⟨fun h => (by rw [← tkB_f hlt (by rw [HVK.out, M.out]; simp)] at h; cases h), fun _ => rfl, HBw.out.trans (Y.out.mono HBw.out.size)⟩
        · have M : Hid (may3 vk vb vs = true) := m
          have WNH : Hid (IntKind.i64.wrap vb = nmV vk vb) := by show _ = _; rw [← NV.out m E.out]; simp [IntKind.wrap, IntKind.signed, IntKind.bits, wrap64]; split <;> omega
          have NS1 : Hid (ntsL v (k + 1) = ntsL v k ++ [.int .i64 (nmV vk vb)]) := by show _ = _; rw [ntsL_succ, HVK.out]
          go_wp2_with fail
          have cy : ∀ x : Sub wr, x.w.cell? (a.add (k * 3)) = some (.int .u8 vk) := fun x => (x.h.cell za).trans d0
          refine wp_region_sub2 (by kernel_rfl) (by kernel_rfl) ?_
          intro cx
          repeat (first | go_big_quiet_skip | (go_big_quiet_want; go_big_quiet_op; first | go_big_quiet_on | (refine ⟨_, fun _ => rfl, ?_⟩; go_big_quiet_on) | go_big_quiet_call (first | (go_at_call 36; exact calls_sub (MayR_of _ _ _ _ O.out.b0 O.out.b1 ⟨O.out.k0, O.out.k1⟩ O.out.s1)))))
          refine wpQuiet_nil ?_
          rintro _ ⟨y, rfl⟩
          have Y : Hid (Below wr.heap.size wr y.w) := y.h
          clear cx cy
          go_wp2_with fail
          obtain ⟨W, hW⟩ := y
          have RW : Hid (Rws w1 W w1.heap.size vN vI k k nLT v) := HR.out.below Y.out
          have q0 := RW.out.c0
          have q1 := RW.out.c1
          have g0 := (hW.cell (p := ⟨gl, k * 16, none⟩) zg).trans e0
          have D1 : Hid (W.cell? ⟨(a.add (k * 3)).block, (a.add (k * 3)).off + 1, none⟩ = some (.int .u64 vb)) := (hW.cell (p := ⟨(a.add (k * 3)).block, (a.add (k * 3)).off + 1, none⟩) za).trans d1
          have zw1 : w1.heap.size < W.heap.size := lt_of_block RW.out.bx
          have zgW : gl < W.heap.size := by omega
          have n1 : ¬ w1.heap.size = W.heap.size := by omega
          have n2 : ¬ gl = W.heap.size := by omega
          clear d0 d1 d2 e0 e3
          generalize hnm : nLT.getD k ⟨#[]⟩ = nm at g0
          have HNM : Hid (nLT.getD k ⟨#[]⟩ = nm) := hnm
          clear hnm
          have u0 := World.new_ne W ⟨w1.heap.size, 0, none⟩ q0
          have u1 := World.new_ne W ⟨gl, k * 16, none⟩ g0
          go_cut [60] (fun s60 wx => ∃ v', Rws w1 wx w1.heap.size v' vI (k + 1) k nLT v)
          case first =>
            go_region_law ((rw [if_pos (by rfl)]; obtain ⟨i, hi, hz, hs, hy⟩ := I1.out; refine wp_append_own _ _ _ 55 rfl w1.heap.size 9 i _ 1 16 Tryd.underlying55 hi hz hs hy rfl (by decide) _ k _ rfl (RW.out.below ((Below.refl _ _).alloc (Nat.le_refl _) _).drew).nm ⟨W.heap.size, 0, none⟩ 1 1 [.string nm] rfl rfl (last_src W _ _) (by intro u hu; simp at hu; subst hu; rfl) (by simp [maxLen]; omega) (by omega) (by simp; omega) ?_; intro v' w' k1 k2 k3; rw [← HNM.out, ← nmsL_succ] at k1; obtain ⟨g', c', rfl⟩ := own_form k1; obtain ⟨X', R'⟩ := (RW.out.below ((Below.refl _ _).alloc (Nat.le_refl _) _).drew).name k2 k1; have x0 : w'.cell? ⟨w1.heap.size, 0, none⟩ = some vN := (by simp [World.cell?, X']); have x1 : w'.frozen? ⟨w1.heap.size, 0, none⟩ = false := (by simp [World.frozen?, X']); have R2 : Hid _ := R'; clear hi hz hs hy k1 k2 k3 X' R'))
            all_goals
              go_wp2
              go_meet
              case rel => exact ⟨_, R2.out⟩
          case rest =>
            obtain ⟨vN', hrw⟩ := hcut
            have RW2 : Hid (Rws w1 wc w1.heap.size vN' vI (k + 1) k nLT v) := hrw
            obtain ⟨m0, m1, m2⟩ := HV1.out k hlt
            rw [HVK.out] at m1
            have c1 := hrw.c1
            have za1 : (a.add (k * 3)).block < w1.heap.size := block_lt_of_cell m0
            have D1 := (hrw.bl.cell (p := ⟨(a.add (k * 3)).block, (a.add (k * 3)).off + 1, none⟩) za1).trans m1
            have zw2 : w1.heap.size < wc.heap.size := lt_of_block hrw.bx
            have zac : (a.add (k * 3)).block < wc.heap.size := Nat.lt_trans za1 zw2
            have n1 : ¬ w1.heap.size = wc.heap.size := by omega
            have n2 : ¬ (a.add (k * 3)).block = wc.heap.size := by omega
            clear m0 m1 m2 hrw
            have u0 := World.new_ne wc ⟨w1.heap.size, 1, none⟩ c1
            have u1 := World.new_ne wc ⟨(a.add (k * 3)).block, (a.add (k * 3)).off + 1, none⟩ D1
            go_wp2_with fail
            go_region_law ((rw [if_pos (by rfl)]; obtain ⟨i, hi, hz, hs, hy⟩ := I2.out; refine wp_append_own _ _ _ 65 rfl w1.heap.size 3 i _ 1 8 Tryd.underlying65 hi hz hs hy rfl (by decide) _ k _ rfl (RW2.out.below ((Below.refl _ _).alloc (Nat.le_refl _) _).drew).nt ⟨wc.heap.size, 0, none⟩ 1 1 [.int .i64 (IntKind.i64.wrap vb)] rfl rfl (last_src wc _ _) (by intro u hu; simp at hu; subst hu; rfl) (by simp [maxLen]; omega) (by omega) (by simp; omega) ?_; intro v' w' k1 k2 k3; rw [WNH.out, ← NS1.out] at k1; obtain ⟨g', c', rfl⟩ := own_form k1; obtain ⟨X', R'⟩ := (RW2.out.below ((Below.refl _ _).alloc (Nat.le_refl _) _).drew).num k2 k1; have x0 : w'.cell? ⟨w1.heap.size, 1, none⟩ = some vI := (by simp [World.cell?, X']); have x1 : w'.frozen? ⟨w1.heap.size, 1, none⟩ = false := (by simp [World.frozen?, X']); have R3 : Hid _ := R'; clear hi hz hs hy k1 k2 k3 X' R'))
            all_goals
              go_wp2
              refine ⟨⟨k + 1, _, _, by omega, by go_num, R3.out, fun j hj => ?_⟩, by simp [intOf]; omega⟩
              rcases Nat.lt_succ_iff_lt_or_eq.1 hj with h | rfl
              · exact HA.out j h
              · rw [HVK.out]; exact ⟨E.out, M.out⟩
      · have e1 : (vk != kAt ksT k) = true := by simpa using e
        have e2 : (vk == kAt ksT k) = false := by simpa using e
        have E : Hid (¬ vk = kAt ksT k) := e
        clear e
        go_wp2_with fail
        have cy : ∀ x : Sub wr, x.w.cell? (a.add (k * 3)) = some (.int .u8 vk) := fun x => (x.h.cell za).trans d0
        refine wp_region_sub2 (by kernel_rfl) (by kernel_rfl) ?_
        intro cx
        repeat (first | go_big_quiet_skip | (go_big_quiet_want; go_big_quiet_op; first | go_big_quiet_on | (refine ⟨_, fun _ => rfl, ?_⟩; go_big_quiet_on) | go_big_quiet_call (first | (go_at_call 36; exact calls_sub (MayR_of _ _ _ _ O.out.b0 O.out.b1 ⟨O.out.k0, O.out.k1⟩ O.out.s1)))))
        refine wpQuiet_nil ?_
        rintro _ ⟨y, rfl⟩
        have Y : Hid (Below wr.heap.size wr y.w) := y.h
        clear cx cy
        go_wp2
        go_ret2
        exact ⟨fun h => (by rw [← tkB_f hlt (by rw [HVK.out]; exact fun g => E.out g.1)] at h; cases h), fun _ => rfl, HBw.out.trans (Y.out.mono HBw.out.size)⟩
    · have ek : k = 6 := by omega
      subst ek
      obtain ⟨gn, cn, eN, hgn, hsm, An, hAn⟩ := own_names hrw.nm (by decide) rfl
      obtain ⟨gi, ci, eI, hgi, hrb⟩ := own_nums hrw.nt (by decide)
      subst eN eI
      have SAr : Hid (SA wr gn gi 6 nLT (nmL 6 v)) := ⟨hsm, hrb, rfl, by simp [nmL], by decide, fun h => by obtain ⟨r, hr⟩ := hrb; rw [← h, hAn] at hr; simp at hr, lt_of_block hAn⟩
      have s1 := hrw.c1
      have s0 := hrw.c0
      have TK : Hid (tkB ksT v 6 = true) := (tkB_t HA.out).symm
      have PP : Hid (∀ i, i < 6 → okN (kAt ksT i) (vN v i)) := okN_of TK.out HO.out
      have BXr : Hid (wr.heap[w1.heap.size]? = some (.cells #[.slice (some ⟨gn, 0, none⟩) 6 cn, .slice (some ⟨gi, 0, none⟩) 6 ci] 71 (0, 0))) := hrw.bx
      have nbi : w1.heap.size ≠ gi := fun h => by obtain ⟨r, hr⟩ := hrb; rw [← h, hrw.bx] at hr; simp at hr
      clear hrw hall hb hsm hrb hAn HR HB
      by_cases c1 : now < 0
      · have HCZ : Hid (clN now = 0) := by show _ = _; unfold clN; rw [if_pos c1]
        have hcb : 0 ≤ (0 : Int) ∧ (0 : Int) ≤ 4611686018427387904 := by omega
        go_wp2_with (go_at_call 39; refine (dsp_9 gn gi cn ci v 0 hcb _ SAr.out PP.out).mono ?_; rintro e w4 ⟨rfl, hws⟩; have WS : Hid (Ws wr w4 gi (nxt 9 0 (nmL 6 v))) := hws; clear hws)
        have NK4 : Hid (VNK w4 gl 6 nLT ksT) := fun i hi => ⟨(World.cell?_of_block (w := wr) (a := ⟨gl, i * 16, none⟩) (WS.out.other gl (by omega) (by omega))).trans (NKr.out i hi).1, (World.cell?_of_block (w := wr) (a := ⟨gl, i * 16 + 3, none⟩) (WS.out.other gl (by omega) (by omega))).trans (NKr.out i hi).2⟩
        have t1 : w4.cell? ⟨w1.heap.size, 1, none⟩ = some (.slice (some ⟨gi, 0, none⟩) 6 ci) := (World.cell?_of_block (w := wr) (a := ⟨w1.heap.size, 1, none⟩) (WS.out.other _ zb nbi)).trans s1
        have zl4 : gl < w4.heap.size := by have := WS.out.size; omega
        have zb4 : w1.heap.size < w4.heap.size := by have := WS.out.size; omega
        have zi4 : gi < w4.heap.size := WS.out.nb.lt
        have B4 : Hid (Below w.heap.size w w4) := HBw.out.trans (WS.out.below (Nat.le_trans HB1.out.size hgi) HBw.out.size)
        have LN : Hid ((nxt 9 0 (nmL 6 v)).length = 6) := by
          show _ = 6
          exact nxt_len6 _ _ _ _ _ _ _ _
        clear s0 s1
        go_loopw [11, 12] (fun vo i wx => ∃ k : Nat, k ≤ 6 ∧ i = .int .i64 k ∧ wx.ownsRow w4.heap.size 34 3 vo k (flV k (vlL ksT (nxt 9 0 (nmL 6 v)))) ∧ Below w4.heap.size w4 wx) (fun _ i _ => 6 - (intOf i).toNat)
        case atStart => exact ⟨0, Nat.zero_le _, rfl, ⟨rfl, .inl ⟨rfl, rfl⟩⟩, Below.refl _ _⟩
        case round =>
          obtain ⟨q, hq, rfl, hown, hb5⟩ := hrel
          have HO5 : Hid (wr.ownsRow w4.heap.size 34 3 _ q (flV q (vlL ksT (nxt 9 0 (nmL 6 v))))) := hown
          have HB5 : Hid (Below w4.heap.size w4 wr) := hb5
          have zr5 := hb5.size
          by_cases hq2 : q < 6
          · have r3 := (hb5.cell (p := ⟨gl, q * 16 + 3, none⟩) zl4).trans (NK4.out q hq2).2
            have t5 := (hb5.cell (p := ⟨w1.heap.size, 1, none⟩) zb4).trans t1
            obtain ⟨x, hx⟩ : ∃ x, (nxt 9 0 (nmL 6 v))[q]? = some x := ⟨_, List.getElem?_eq_getElem (by rw [LN.out]; exact hq2)⟩
            have i5 := (hb5.cell (p := ⟨gi, q, none⟩) zi4).trans (WS.out.nb.cell q x hx)
            have VX : Hid (vlL ksT (nxt 9 0 (nmL 6 v)) q = ⟨kAt ksT q, x % 18446744073709551616, ⟨#[]⟩⟩) := by show _ = _; unfold vlL; rw [List.getD_eq_getElem?_getD, hx]; rfl
            have WX : Hid (IntKind.u64.wrap x = x % 18446744073709551616) := by show _ = _; rw [IntKind.wrap_u64]
            have zl5 : gl < wr.heap.size := by omega
            have zb5 : w1.heap.size < wr.heap.size := by omega
            have zi5 : gi < wr.heap.size := by omega
            have hq' : (q : Int) < 6 := by omega
            clear hown hb5 hx t1
            go_wp2_with fail
            go_region_law ((rw [if_pos (by rfl)]; obtain ⟨i, hi, hz, hs, hy⟩ := I3.out; refine wp_append_own _ _ _ 30 rfl w4.heap.size 34 i _ 3 32 Tryd.underlying30 hi hz hs hy rfl (by decide) _ q _ rfl (ownsRow_below HO5.out ((Below.refl _ _).alloc (Nat.le_refl _) _).drew) ⟨wr.heap.size, 0, none⟩ 1 1 [.int .u8 (kAt ksT q), .int .u64 (IntKind.u64.wrap x), .string ⟨#[]⟩] rfl rfl (last_src wr _ _) (by intro u hu; simp at hu; rcases hu with rfl | rfl | rfl <;> rfl) (by simp [maxLen]; omega) (by omega) (by simp; omega) ?_; intro v' w' k1 k2 k3; rw [WX.out] at k1; have H1 : Hid (w'.ownsRow w4.heap.size 34 3 v' (q + 1) (flV (q + 1) (vlL ksT (nxt 9 0 (nmL 6 v))))) := (by rw [flV_succ, VX.out]; exact k1); have H2 : Hid _ := k2; clear hi hz hs hy k1 k2 k3))
            all_goals
              go_wp2
              exact ⟨⟨q + 1, by omega, by go_num, H1.out, ((HB5.out.alloc zr5 _).drew).grown H2.out (by simp; omega) (fun g e => own_blk HO5.out e)⟩, by simp [intOf]; omega⟩
          · have eq : q = 6 := by omega
            subst eq
            clear hown hb5
            go_wp2
            obtain ⟨g', c', rfl, hg', hr'⟩ := own_row HO5.out (by decide)
            go_ret2
            exact ⟨fun _ => ⟨g', c', rfl, Nat.le_trans B4.out.size hg', by rw [HCZ.out]; exact hr'⟩, fun h => (by rw [TK.out] at h; cases h), B4.out.trans (HB5.out.mono B4.out.size)⟩
      by_cases c2 : 4611686018427387904 < now
      · have HCZ : Hid (clN now = 4611686018427387904) := by show _ = _; unfold clN; rw [if_neg c1, if_pos c2]
        have hcb : 0 ≤ (4611686018427387904 : Int) ∧ (4611686018427387904 : Int) ≤ 4611686018427387904 := by omega
        go_wp2_with (go_at_call 39; refine (dsp_9 gn gi cn ci v 4611686018427387904 hcb _ SAr.out PP.out).mono ?_; rintro e w4 ⟨rfl, hws⟩; have WS : Hid (Ws wr w4 gi (nxt 9 4611686018427387904 (nmL 6 v))) := hws; clear hws)
        have NK4 : Hid (VNK w4 gl 6 nLT ksT) := fun i hi => ⟨(World.cell?_of_block (w := wr) (a := ⟨gl, i * 16, none⟩) (WS.out.other gl (by omega) (by omega))).trans (NKr.out i hi).1, (World.cell?_of_block (w := wr) (a := ⟨gl, i * 16 + 3, none⟩) (WS.out.other gl (by omega) (by omega))).trans (NKr.out i hi).2⟩
        have t1 : w4.cell? ⟨w1.heap.size, 1, none⟩ = some (.slice (some ⟨gi, 0, none⟩) 6 ci) := (World.cell?_of_block (w := wr) (a := ⟨w1.heap.size, 1, none⟩) (WS.out.other _ zb nbi)).trans s1
        have zl4 : gl < w4.heap.size := by have := WS.out.size; omega
        have zb4 : w1.heap.size < w4.heap.size := by have := WS.out.size; omega
        have zi4 : gi < w4.heap.size := WS.out.nb.lt
        have B4 : Hid (Below w.heap.size w w4) := HBw.out.trans (WS.out.below (Nat.le_trans HB1.out.size hgi) HBw.out.size)
        have LN : Hid ((nxt 9 4611686018427387904 (nmL 6 v)).length = 6) := by
          show _ = 6
          exact nxt_len6 _ _ _ _ _ _ _ _
        clear s0 s1
        go_loopw [11, 12] (fun vo i wx => ∃ k : Nat, k ≤ 6 ∧ i = .int .i64 k ∧ wx.ownsRow w4.heap.size 34 3 vo k (flV k (vlL ksT (nxt 9 4611686018427387904 (nmL 6 v)))) ∧ Below w4.heap.size w4 wx) (fun _ i _ => 6 - (intOf i).toNat)
        case atStart => exact ⟨0, Nat.zero_le _, rfl, ⟨rfl, .inl ⟨rfl, rfl⟩⟩, Below.refl _ _⟩
        case round =>
          obtain ⟨q, hq, rfl, hown, hb5⟩ := hrel
          have HO5 : Hid (wr.ownsRow w4.heap.size 34 3 _ q (flV q (vlL ksT (nxt 9 4611686018427387904 (nmL 6 v))))) := hown
          have HB5 : Hid (Below w4.heap.size w4 wr) := hb5
          have zr5 := hb5.size
          by_cases hq2 : q < 6
          · have r3 := (hb5.cell (p := ⟨gl, q * 16 + 3, none⟩) zl4).trans (NK4.out q hq2).2
            have t5 := (hb5.cell (p := ⟨w1.heap.size, 1, none⟩) zb4).trans t1
            obtain ⟨x, hx⟩ : ∃ x, (nxt 9 4611686018427387904 (nmL 6 v))[q]? = some x := ⟨_, List.getElem?_eq_getElem (by rw [LN.out]; exact hq2)⟩
            have i5 := (hb5.cell (p := ⟨gi, q, none⟩) zi4).trans (WS.out.nb.cell q x hx)
            have VX : Hid (vlL ksT (nxt 9 4611686018427387904 (nmL 6 v)) q = ⟨kAt ksT q, x % 18446744073709551616, ⟨#[]⟩⟩) := by show _ = _; unfold vlL; rw [List.getD_eq_getElem?_getD, hx]; rfl
            have WX : Hid (IntKind.u64.wrap x = x % 18446744073709551616) := by show _ = _; rw [IntKind.wrap_u64]
            have zl5 : gl < wr.heap.size := by omega
            have zb5 : w1.heap.size < wr.heap.size := by omega
            have zi5 : gi < wr.heap.size := by omega
            have hq' : (q : Int) < 6 := by omega
            clear hown hb5 hx t1
            go_wp2_with fail
            go_region_law ((rw [if_pos (by rfl)]; obtain ⟨i, hi, hz, hs, hy⟩ := I3.out; refine wp_append_own _ _ _ 30 rfl w4.heap.size 34 i _ 3 32 Tryd.underlying30 hi hz hs hy rfl (by decide) _ q _ rfl (ownsRow_below HO5.out ((Below.refl _ _).alloc (Nat.le_refl _) _).drew) ⟨wr.heap.size, 0, none⟩ 1 1 [.int .u8 (kAt ksT q), .int .u64 (IntKind.u64.wrap x), .string ⟨#[]⟩] rfl rfl (last_src wr _ _) (by intro u hu; simp at hu; rcases hu with rfl | rfl | rfl <;> rfl) (by simp [maxLen]; omega) (by omega) (by simp; omega) ?_; intro v' w' k1 k2 k3; rw [WX.out] at k1; have H1 : Hid (w'.ownsRow w4.heap.size 34 3 v' (q + 1) (flV (q + 1) (vlL ksT (nxt 9 4611686018427387904 (nmL 6 v))))) := (by rw [flV_succ, VX.out]; exact k1); have H2 : Hid _ := k2; clear hi hz hs hy k1 k2 k3))
            all_goals
              go_wp2
              exact ⟨⟨q + 1, by omega, by go_num, H1.out, ((HB5.out.alloc zr5 _).drew).grown H2.out (by simp; omega) (fun g e => own_blk HO5.out e)⟩, by simp [intOf]; omega⟩
          · have eq : q = 6 := by omega
            subst eq
            clear hown hb5
            go_wp2
            obtain ⟨g', c', rfl, hg', hr'⟩ := own_row HO5.out (by decide)
            go_ret2
            exact ⟨fun _ => ⟨g', c', rfl, Nat.le_trans B4.out.size hg', by rw [HCZ.out]; exact hr'⟩, fun h => (by rw [TK.out] at h; cases h), B4.out.trans (HB5.out.mono B4.out.size)⟩
      · have HCZ : Hid (clN now = now) := by show _ = _; unfold clN; rw [if_neg c1, if_neg c2]
        have hcb : 0 ≤ now ∧ now ≤ 4611686018427387904 := by omega
        go_wp2_with (go_at_call 39; refine (dsp_9 gn gi cn ci v now hcb _ SAr.out PP.out).mono ?_; rintro e w4 ⟨rfl, hws⟩; have WS : Hid (Ws wr w4 gi (nxt 9 now (nmL 6 v))) := hws; clear hws)
        have NK4 : Hid (VNK w4 gl 6 nLT ksT) := fun i hi => ⟨(World.cell?_of_block (w := wr) (a := ⟨gl, i * 16, none⟩) (WS.out.other gl (by omega) (by omega))).trans (NKr.out i hi).1, (World.cell?_of_block (w := wr) (a := ⟨gl, i * 16 + 3, none⟩) (WS.out.other gl (by omega) (by omega))).trans (NKr.out i hi).2⟩
        have t1 : w4.cell? ⟨w1.heap.size, 1, none⟩ = some (.slice (some ⟨gi, 0, none⟩) 6 ci) := (World.cell?_of_block (w := wr) (a := ⟨w1.heap.size, 1, none⟩) (WS.out.other _ zb nbi)).trans s1
        have zl4 : gl < w4.heap.size := by have := WS.out.size; omega
        have zb4 : w1.heap.size < w4.heap.size := by have := WS.out.size; omega
        have zi4 : gi < w4.heap.size := WS.out.nb.lt
        have B4 : Hid (Below w.heap.size w w4) := HBw.out.trans (WS.out.below (Nat.le_trans HB1.out.size hgi) HBw.out.size)
        have LN : Hid ((nxt 9 now (nmL 6 v)).length = 6) := by
          show _ = 6
          exact nxt_len6 _ _ _ _ _ _ _ _
        clear s0 s1
        go_loopw [11, 12] (fun vo i wx => ∃ k : Nat, k ≤ 6 ∧ i = .int .i64 k ∧ wx.ownsRow w4.heap.size 34 3 vo k (flV k (vlL ksT (nxt 9 now (nmL 6 v)))) ∧ Below w4.heap.size w4 wx) (fun _ i _ => 6 - (intOf i).toNat)
        case atStart => exact ⟨0, Nat.zero_le _, rfl, ⟨rfl, .inl ⟨rfl, rfl⟩⟩, Below.refl _ _⟩
        case round =>
          obtain ⟨q, hq, rfl, hown, hb5⟩ := hrel
          have HO5 : Hid (wr.ownsRow w4.heap.size 34 3 _ q (flV q (vlL ksT (nxt 9 now (nmL 6 v))))) := hown
          have HB5 : Hid (Below w4.heap.size w4 wr) := hb5
          have zr5 := hb5.size
          by_cases hq2 : q < 6
          · have r3 := (hb5.cell (p := ⟨gl, q * 16 + 3, none⟩) zl4).trans (NK4.out q hq2).2
            have t5 := (hb5.cell (p := ⟨w1.heap.size, 1, none⟩) zb4).trans t1
            obtain ⟨x, hx⟩ : ∃ x, (nxt 9 now (nmL 6 v))[q]? = some x := ⟨_, List.getElem?_eq_getElem (by rw [LN.out]; exact hq2)⟩
            have i5 := (hb5.cell (p := ⟨gi, q, none⟩) zi4).trans (WS.out.nb.cell q x hx)
            have VX : Hid (vlL ksT (nxt 9 now (nmL 6 v)) q = ⟨kAt ksT q, x % 18446744073709551616, ⟨#[]⟩⟩) := by show _ = _; unfold vlL; rw [List.getD_eq_getElem?_getD, hx]; rfl
            have WX : Hid (IntKind.u64.wrap x = x % 18446744073709551616) := by show _ = _; rw [IntKind.wrap_u64]
            have zl5 : gl < wr.heap.size := by omega
            have zb5 : w1.heap.size < wr.heap.size := by omega
            have zi5 : gi < wr.heap.size := by omega
            have hq' : (q : Int) < 6 := by omega
            clear hown hb5 hx t1
            go_wp2_with fail
            go_region_law ((rw [if_pos (by rfl)]; obtain ⟨i, hi, hz, hs, hy⟩ := I3.out; refine wp_append_own _ _ _ 30 rfl w4.heap.size 34 i _ 3 32 Tryd.underlying30 hi hz hs hy rfl (by decide) _ q _ rfl (ownsRow_below HO5.out ((Below.refl _ _).alloc (Nat.le_refl _) _).drew) ⟨wr.heap.size, 0, none⟩ 1 1 [.int .u8 (kAt ksT q), .int .u64 (IntKind.u64.wrap x), .string ⟨#[]⟩] rfl rfl (last_src wr _ _) (by intro u hu; simp at hu; rcases hu with rfl | rfl | rfl <;> rfl) (by simp [maxLen]; omega) (by omega) (by simp; omega) ?_; intro v' w' k1 k2 k3; rw [WX.out] at k1; have H1 : Hid (w'.ownsRow w4.heap.size 34 3 v' (q + 1) (flV (q + 1) (vlL ksT (nxt 9 now (nmL 6 v))))) := (by rw [flV_succ, VX.out]; exact k1); have H2 : Hid _ := k2; clear hi hz hs hy k1 k2 k3))
            all_goals
              go_wp2
              exact ⟨⟨q + 1, by omega, by go_num, H1.out, ((HB5.out.alloc zr5 _).drew).grown H2.out (by simp; omega) (fun g e => own_blk HO5.out e)⟩, by simp [intOf]; omega⟩
          · have eq : q = 6 := by omega
            subst eq
            clear hown hb5
            go_wp2
            obtain ⟨g', c', rfl, hg', hr'⟩ := own_row HO5.out (by decide)
            go_ret2
            exact ⟨fun _ => ⟨g', c', rfl, Nat.le_trans B4.out.size hg', by rw [HCZ.out]; exact hr'⟩, fun h => (by rw [TK.out] at h; cases h), B4.out.trans (HB5.out.mono B4.out.size)⟩
end Go.Proofs.YtjnegbjgogkamaaDoor
