/- The document's blocks: the flip-flops and edges; no statement of the seat is proved here. -/
import Derived.Test.YtjnegbjgogkamaaDoorRfB
import Derived.Test.YtjnegbjgogkamaaDoorRgL
namespace Go.Proofs.YtjnegbjgogkamaaDoor
set_option linter.unusedVariables false
open Go.RowKit
set_option maxRecDepth 20000 in
set_option maxHeartbeats 4000000 in
theorem plain_1 (gn gi cn ci : Nat) (a b q : Int) (w : World) (h : SA w gn gi 3 nL1 [a, b, q]) (ha : B01 a) (hb : B01 b) (hq : B01 q) :
    Calls Tryd.prog 37 #[SV gn gi 3 cn ci, .int .i64 1] w fun e w' => e = .returned (.tuple #[]) ∧ Ws w w' gi (nxt 1 0 [a, b, q]) := by
  rcases ha with rfl | rfl <;> rcases hb with rfl | rfl <;> rcases hq with rfl | rfl
  all_goals
    have S0 : Hid (SA w gn gi 3 nL1 _) := h
    clear h
    go_enter Tryd.func37, Tryd.ntmps37
    go_wp2_with fail
    have S : Hid (BX w (w.alloc (.cells #[.slice (some ⟨gn, 0, none⟩) 3 cn, .slice (some ⟨gi, 0, none⟩) 3 ci] 71)) w.heap.size gn gi 3 cn ci nL1 _) := BX.new cn ci S0.out
    have q0 := S.out.c0
    have q1 := S.out.c1
    generalize w.alloc (.cells #[.slice (some ⟨gn, 0, none⟩) 3 cn, .slice (some ⟨gi, 0, none⟩) 3 ci] 71) = W0 at S q0 q1 ⊢
    generalize w.heap.size = b0 at S q0 q1 ⊢
    go_wp2_with fail
    refine wp_region_last _ (by kernel_rfl) (by kernel_rfl) rfl ?_
    intro cx
    simp only [List.dropLast]
    have zb := S.out.bl
    repeat (first | go_big_quiet_skip | (go_big_quiet_want; go_big_quiet_op; first | go_big_quiet_on | (refine ⟨_, fun _ => rfl, ?_⟩; go_big_quiet_on) | go_big_quiet_call (first | (go_at_call_of 60 (Value.string ⟨#[83, 49]⟩); first | exact calls_sub (is10 (S.out.sa.below (Sub.h _)) false rfl) | exact calls_sub (is10 (S.out.sa.below (Sub.h _)) true rfl)) | (go_at_call_of 60 (Value.string ⟨#[82]⟩); first | exact calls_sub (is11 (S.out.sa.below (Sub.h _)) false rfl) | exact calls_sub (is11 (S.out.sa.below (Sub.h _)) true rfl)) | (go_at_call_of 60 (Value.string ⟨#[81, 49]⟩); first | exact calls_sub (is12 (S.out.sa.below (Sub.h _)) false rfl) | exact calls_sub (is12 (S.out.sa.below (Sub.h _)) true rfl)))))
    refine wpQuiet_nil ?_
    rintro _ ⟨y, rfl⟩
    clear cx
    have S : Hid (BX w y.w b0 gn gi 3 cn ci nL1 _) := S.out.below y.h
    clear q0 q1 zb
    have q0 := S.out.c0
    have q1 := S.out.c1
    go_wp2_with (first | (go_at_call_of 60 (Value.string ⟨#[83, 49]⟩); (first | refine (is10 (by first | exact S.out.sa | exact S.out.drew.sa) false rfl).mono ?_ | refine (is10 (by first | exact S.out.sa | exact S.out.drew.sa) true rfl).mono ?_); rintro e w1 ⟨rfl, hb⟩; have S : Hid (BX w w1 b0 gn gi 3 cn ci nL1 _) := (by first | exact S.out.below hb | exact S.out.drew.below hb); clear hb; (try clear q0 q1); have q0 := S.out.c0; have q1 := S.out.c1) | (go_at_call_of 60 (Value.string ⟨#[82]⟩); (first | refine (is11 (by first | exact S.out.sa | exact S.out.drew.sa) false rfl).mono ?_ | refine (is11 (by first | exact S.out.sa | exact S.out.drew.sa) true rfl).mono ?_); rintro e w1 ⟨rfl, hb⟩; have S : Hid (BX w w1 b0 gn gi 3 cn ci nL1 _) := (by first | exact S.out.below hb | exact S.out.drew.below hb); clear hb; (try clear q0 q1); have q0 := S.out.c0; have q1 := S.out.c1) | (go_at_call_of 60 (Value.string ⟨#[81, 49]⟩); (first | refine (is12 (by first | exact S.out.sa | exact S.out.drew.sa) false rfl).mono ?_ | refine (is12 (by first | exact S.out.sa | exact S.out.drew.sa) true rfl).mono ?_); rintro e w1 ⟨rfl, hb⟩; have S : Hid (BX w w1 b0 gn gi 3 cn ci nL1 _) := (by first | exact S.out.below hb | exact S.out.drew.below hb); clear hb; (try clear q0 q1); have q0 := S.out.c0; have q1 := S.out.c1) | (go_at_call_of 59 (Value.string ⟨#[81, 49]⟩); refine (say12 (by first | exact S.out.sa | exact S.out.drew.sa) _).mono ?_; rintro e w1 ⟨rfl, hb⟩; have S : Hid (BX w w1 b0 gn gi 3 cn ci nL1 _) := (by first | exact S.out.put hb rfl | exact S.out.drew.put hb rfl); clear hb; (try clear q0 q1); have q0 := S.out.c0; have q1 := S.out.c1))
    go_end0
    exact ⟨rfl, S.out.ws.to rfl⟩
set_option maxRecDepth 20000 in
set_option maxHeartbeats 4000000 in
theorem plain_2 (gn gi cn ci : Nat) (a b q : Int) (w : World) (h : SA w gn gi 3 nL2 [a, b, q]) (ha : B01 a) (hb : B01 b) (hq : B01 q) :
    Calls Tryd.prog 37 #[SV gn gi 3 cn ci, .int .i64 2] w fun e w' => e = .returned (.tuple #[]) ∧ Ws w w' gi (nxt 2 0 [a, b, q]) := by
  rcases ha with rfl | rfl <;> rcases hb with rfl | rfl <;> rcases hq with rfl | rfl
  all_goals
    have S0 : Hid (SA w gn gi 3 nL2 _) := h
    clear h
    go_enter Tryd.func37, Tryd.ntmps37
    go_wp2_with fail
    have S : Hid (BX w (w.alloc (.cells #[.slice (some ⟨gn, 0, none⟩) 3 cn, .slice (some ⟨gi, 0, none⟩) 3 ci] 71)) w.heap.size gn gi 3 cn ci nL2 _) := BX.new cn ci S0.out
    have q0 := S.out.c0
    have q1 := S.out.c1
    generalize w.alloc (.cells #[.slice (some ⟨gn, 0, none⟩) 3 cn, .slice (some ⟨gi, 0, none⟩) 3 ci] 71) = W0 at S q0 q1 ⊢
    generalize w.heap.size = b0 at S q0 q1 ⊢
    go_wp2_with fail
    refine wp_region_last _ (by kernel_rfl) (by kernel_rfl) rfl ?_
    intro cx
    simp only [List.dropLast]
    have zb := S.out.bl
    repeat (first | go_big_quiet_skip | (go_big_quiet_want; go_big_quiet_op; first | go_big_quiet_on | (refine ⟨_, fun _ => rfl, ?_⟩; go_big_quiet_on) | go_big_quiet_call (first | (go_at_call_of 60 (Value.string ⟨#[83]⟩); first | exact calls_sub (is20 (S.out.sa.below (Sub.h _)) false rfl) | exact calls_sub (is20 (S.out.sa.below (Sub.h _)) true rfl)) | (go_at_call_of 60 (Value.string ⟨#[82, 49]⟩); first | exact calls_sub (is21 (S.out.sa.below (Sub.h _)) false rfl) | exact calls_sub (is21 (S.out.sa.below (Sub.h _)) true rfl)) | (go_at_call_of 60 (Value.string ⟨#[81, 49]⟩); first | exact calls_sub (is22 (S.out.sa.below (Sub.h _)) false rfl) | exact calls_sub (is22 (S.out.sa.below (Sub.h _)) true rfl)))))
    refine wpQuiet_nil ?_
    rintro _ ⟨y, rfl⟩
    clear cx
    have S : Hid (BX w y.w b0 gn gi 3 cn ci nL2 _) := S.out.below y.h
    clear q0 q1 zb
    have q0 := S.out.c0
    have q1 := S.out.c1
    go_wp2_with (first | (go_at_call_of 60 (Value.string ⟨#[83]⟩); (first | refine (is20 (by first | exact S.out.sa | exact S.out.drew.sa) false rfl).mono ?_ | refine (is20 (by first | exact S.out.sa | exact S.out.drew.sa) true rfl).mono ?_); rintro e w1 ⟨rfl, hb⟩; have S : Hid (BX w w1 b0 gn gi 3 cn ci nL2 _) := (by first | exact S.out.below hb | exact S.out.drew.below hb); clear hb; (try clear q0 q1); have q0 := S.out.c0; have q1 := S.out.c1) | (go_at_call_of 60 (Value.string ⟨#[82, 49]⟩); (first | refine (is21 (by first | exact S.out.sa | exact S.out.drew.sa) false rfl).mono ?_ | refine (is21 (by first | exact S.out.sa | exact S.out.drew.sa) true rfl).mono ?_); rintro e w1 ⟨rfl, hb⟩; have S : Hid (BX w w1 b0 gn gi 3 cn ci nL2 _) := (by first | exact S.out.below hb | exact S.out.drew.below hb); clear hb; (try clear q0 q1); have q0 := S.out.c0; have q1 := S.out.c1) | (go_at_call_of 60 (Value.string ⟨#[81, 49]⟩); (first | refine (is22 (by first | exact S.out.sa | exact S.out.drew.sa) false rfl).mono ?_ | refine (is22 (by first | exact S.out.sa | exact S.out.drew.sa) true rfl).mono ?_); rintro e w1 ⟨rfl, hb⟩; have S : Hid (BX w w1 b0 gn gi 3 cn ci nL2 _) := (by first | exact S.out.below hb | exact S.out.drew.below hb); clear hb; (try clear q0 q1); have q0 := S.out.c0; have q1 := S.out.c1) | (go_at_call_of 59 (Value.string ⟨#[81, 49]⟩); refine (say22 (by first | exact S.out.sa | exact S.out.drew.sa) _).mono ?_; rintro e w1 ⟨rfl, hb⟩; have S : Hid (BX w w1 b0 gn gi 3 cn ci nL2 _) := (by first | exact S.out.put hb rfl | exact S.out.drew.put hb rfl); clear hb; (try clear q0 q1); have q0 := S.out.c0; have q1 := S.out.c1))
    go_end0
    exact ⟨rfl, S.out.ws.to rfl⟩
set_option maxRecDepth 20000 in
set_option maxHeartbeats 4000000 in
theorem plain_3 (gn gi cn ci : Nat) (a b q : Int) (w : World) (h : SA w gn gi 3 nLE [a, b, q]) (ha : B01 a) (hb : B01 b) (hq : B01 q) :
    Calls Tryd.prog 37 #[SV gn gi 3 cn ci, .int .i64 3] w fun e w' => e = .returned (.tuple #[]) ∧ Ws w w' gi (nxt 3 0 [a, b, q]) := by
  rcases ha with rfl | rfl <;> rcases hb with rfl | rfl <;> rcases hq with rfl | rfl
  all_goals
    have S0 : Hid (SA w gn gi 3 nLE _) := h
    clear h
    go_enter Tryd.func37, Tryd.ntmps37
    go_wp2_with fail
    have S : Hid (BX w (w.alloc (.cells #[.slice (some ⟨gn, 0, none⟩) 3 cn, .slice (some ⟨gi, 0, none⟩) 3 ci] 71)) w.heap.size gn gi 3 cn ci nLE _) := BX.new cn ci S0.out
    have q0 := S.out.c0
    have q1 := S.out.c1
    generalize w.alloc (.cells #[.slice (some ⟨gn, 0, none⟩) 3 cn, .slice (some ⟨gi, 0, none⟩) 3 ci] 71) = W0 at S q0 q1 ⊢
    generalize w.heap.size = b0 at S q0 q1 ⊢
    go_wp2_with fail
    refine wp_region_last _ (by kernel_rfl) (by kernel_rfl) rfl ?_
    intro cx
    simp only [List.dropLast]
    have zb := S.out.bl
    repeat (first | go_big_quiet_skip | (go_big_quiet_want; go_big_quiet_op; first | go_big_quiet_on | (refine ⟨_, fun _ => rfl, ?_⟩; go_big_quiet_on) | go_big_quiet_call (first | (go_at_call_of 60 (Value.string ⟨#[67, 76, 75]⟩); first | exact calls_sub (isE0 (S.out.sa.below (Sub.h _)) false rfl) | exact calls_sub (isE0 (S.out.sa.below (Sub.h _)) true rfl)) | (go_at_call_of 60 (Value.string ⟨#[77]⟩); first | exact calls_sub (isE2 (S.out.sa.below (Sub.h _)) false rfl) | exact calls_sub (isE2 (S.out.sa.below (Sub.h _)) true rfl)))))
    refine wpQuiet_nil ?_
    rintro _ ⟨y, rfl⟩
    clear cx
    have S : Hid (BX w y.w b0 gn gi 3 cn ci nLE _) := S.out.below y.h
    clear q0 q1 zb
    have q0 := S.out.c0
    have q1 := S.out.c1
    go_wp2_with (first | (go_at_call_of 60 (Value.string ⟨#[67, 76, 75]⟩); (first | refine (isE0 (by first | exact S.out.sa | exact S.out.drew.sa) false rfl).mono ?_ | refine (isE0 (by first | exact S.out.sa | exact S.out.drew.sa) true rfl).mono ?_); rintro e w1 ⟨rfl, hb⟩; have S : Hid (BX w w1 b0 gn gi 3 cn ci nLE _) := (by first | exact S.out.below hb | exact S.out.drew.below hb); clear hb; (try clear q0 q1); have q0 := S.out.c0; have q1 := S.out.c1) | (go_at_call_of 60 (Value.string ⟨#[77]⟩); (first | refine (isE2 (by first | exact S.out.sa | exact S.out.drew.sa) false rfl).mono ?_ | refine (isE2 (by first | exact S.out.sa | exact S.out.drew.sa) true rfl).mono ?_); rintro e w1 ⟨rfl, hb⟩; have S : Hid (BX w w1 b0 gn gi 3 cn ci nLE _) := (by first | exact S.out.below hb | exact S.out.drew.below hb); clear hb; (try clear q0 q1); have q0 := S.out.c0; have q1 := S.out.c1) | (go_at_call_of 59 (Value.string ⟨#[81]⟩); refine (sayE1 (by first | exact S.out.sa | exact S.out.drew.sa) _).mono ?_; rintro e w1 ⟨rfl, hb⟩; have S : Hid (BX w w1 b0 gn gi 3 cn ci nLE _) := (by first | exact S.out.put hb rfl | exact S.out.drew.put hb rfl); clear hb; (try clear q0 q1); have q0 := S.out.c0; have q1 := S.out.c1) | (go_at_call_of 59 (Value.string ⟨#[77]⟩); refine (sayE2 (by first | exact S.out.sa | exact S.out.drew.sa) _).mono ?_; rintro e w1 ⟨rfl, hb⟩; have S : Hid (BX w w1 b0 gn gi 3 cn ci nLE _) := (by first | exact S.out.put hb rfl | exact S.out.drew.put hb rfl); clear hb; (try clear q0 q1); have q0 := S.out.c0; have q1 := S.out.c1))
    go_wp2_with fail
    refine wp_region_last _ (by kernel_rfl) (by kernel_rfl) rfl ?_
    intro cx
    simp only [List.dropLast]
    have zb := S.out.bl
    repeat (first | go_big_quiet_skip | (go_big_quiet_want; go_big_quiet_op; first | go_big_quiet_on | (refine ⟨_, fun _ => rfl, ?_⟩; go_big_quiet_on) | go_big_quiet_call (first | (go_at_call_of 60 (Value.string ⟨#[67, 76, 75]⟩); first | exact calls_sub (isE0 (S.out.sa.below (Sub.h _)) false rfl) | exact calls_sub (isE0 (S.out.sa.below (Sub.h _)) true rfl)) | (go_at_call_of 60 (Value.string ⟨#[77]⟩); first | exact calls_sub (isE2 (S.out.sa.below (Sub.h _)) false rfl) | exact calls_sub (isE2 (S.out.sa.below (Sub.h _)) true rfl)))))
    refine wpQuiet_nil ?_
    rintro _ ⟨y, rfl⟩
    clear cx
    have S : Hid (BX w y.w b0 gn gi 3 cn ci nLE _) := S.out.below y.h
    clear q0 q1 zb
    have q0 := S.out.c0
    have q1 := S.out.c1
    go_wp2_with (first | (go_at_call_of 60 (Value.string ⟨#[67, 76, 75]⟩); (first | refine (isE0 (by first | exact S.out.sa | exact S.out.drew.sa) false rfl).mono ?_ | refine (isE0 (by first | exact S.out.sa | exact S.out.drew.sa) true rfl).mono ?_); rintro e w1 ⟨rfl, hb⟩; have S : Hid (BX w w1 b0 gn gi 3 cn ci nLE _) := (by first | exact S.out.below hb | exact S.out.drew.below hb); clear hb; (try clear q0 q1); have q0 := S.out.c0; have q1 := S.out.c1) | (go_at_call_of 60 (Value.string ⟨#[77]⟩); (first | refine (isE2 (by first | exact S.out.sa | exact S.out.drew.sa) false rfl).mono ?_ | refine (isE2 (by first | exact S.out.sa | exact S.out.drew.sa) true rfl).mono ?_); rintro e w1 ⟨rfl, hb⟩; have S : Hid (BX w w1 b0 gn gi 3 cn ci nLE _) := (by first | exact S.out.below hb | exact S.out.drew.below hb); clear hb; (try clear q0 q1); have q0 := S.out.c0; have q1 := S.out.c1) | (go_at_call_of 59 (Value.string ⟨#[81]⟩); refine (sayE1 (by first | exact S.out.sa | exact S.out.drew.sa) _).mono ?_; rintro e w1 ⟨rfl, hb⟩; have S : Hid (BX w w1 b0 gn gi 3 cn ci nLE _) := (by first | exact S.out.put hb rfl | exact S.out.drew.put hb rfl); clear hb; (try clear q0 q1); have q0 := S.out.c0; have q1 := S.out.c1) | (go_at_call_of 59 (Value.string ⟨#[77]⟩); refine (sayE2 (by first | exact S.out.sa | exact S.out.drew.sa) _).mono ?_; rintro e w1 ⟨rfl, hb⟩; have S : Hid (BX w w1 b0 gn gi 3 cn ci nLE _) := (by first | exact S.out.put hb rfl | exact S.out.drew.put hb rfl); clear hb; (try clear q0 q1); have q0 := S.out.c0; have q1 := S.out.c1))
    go_end0
    exact ⟨rfl, S.out.ws.to rfl⟩
set_option maxRecDepth 20000 in
set_option maxHeartbeats 4000000 in
theorem plain_4 (gn gi cn ci : Nat) (a b q : Int) (w : World) (h : SA w gn gi 3 nLE [a, b, q]) (ha : B01 a) (hb : B01 b) (hq : B01 q) :
    Calls Tryd.prog 37 #[SV gn gi 3 cn ci, .int .i64 4] w fun e w' => e = .returned (.tuple #[]) ∧ Ws w w' gi (nxt 4 0 [a, b, q]) := by
  rcases ha with rfl | rfl <;> rcases hb with rfl | rfl <;> rcases hq with rfl | rfl
  all_goals
    have S0 : Hid (SA w gn gi 3 nLE _) := h
    clear h
    go_enter Tryd.func37, Tryd.ntmps37
    go_wp2_with fail
    have S : Hid (BX w (w.alloc (.cells #[.slice (some ⟨gn, 0, none⟩) 3 cn, .slice (some ⟨gi, 0, none⟩) 3 ci] 71)) w.heap.size gn gi 3 cn ci nLE _) := BX.new cn ci S0.out
    have q0 := S.out.c0
    have q1 := S.out.c1
    generalize w.alloc (.cells #[.slice (some ⟨gn, 0, none⟩) 3 cn, .slice (some ⟨gi, 0, none⟩) 3 ci] 71) = W0 at S q0 q1 ⊢
    generalize w.heap.size = b0 at S q0 q1 ⊢
    go_wp2_with fail
    refine wp_region_last _ (by kernel_rfl) (by kernel_rfl) rfl ?_
    intro cx
    simp only [List.dropLast]
    have zb := S.out.bl
    repeat (first | go_big_quiet_skip | (go_big_quiet_want; go_big_quiet_op; first | go_big_quiet_on | (refine ⟨_, fun _ => rfl, ?_⟩; go_big_quiet_on) | go_big_quiet_call (first | (go_at_call_of 60 (Value.string ⟨#[67, 76, 75]⟩); first | exact calls_sub (isE0 (S.out.sa.below (Sub.h _)) false rfl) | exact calls_sub (isE0 (S.out.sa.below (Sub.h _)) true rfl)) | (go_at_call_of 60 (Value.string ⟨#[77]⟩); first | exact calls_sub (isE2 (S.out.sa.below (Sub.h _)) false rfl) | exact calls_sub (isE2 (S.out.sa.below (Sub.h _)) true rfl)))))
    refine wpQuiet_nil ?_
    rintro _ ⟨y, rfl⟩
    clear cx
    have S : Hid (BX w y.w b0 gn gi 3 cn ci nLE _) := S.out.below y.h
    clear q0 q1 zb
    have q0 := S.out.c0
    have q1 := S.out.c1
    go_wp2_with (first | (go_at_call_of 60 (Value.string ⟨#[67, 76, 75]⟩); (first | refine (isE0 (by first | exact S.out.sa | exact S.out.drew.sa) false rfl).mono ?_ | refine (isE0 (by first | exact S.out.sa | exact S.out.drew.sa) true rfl).mono ?_); rintro e w1 ⟨rfl, hb⟩; have S : Hid (BX w w1 b0 gn gi 3 cn ci nLE _) := (by first | exact S.out.below hb | exact S.out.drew.below hb); clear hb; (try clear q0 q1); have q0 := S.out.c0; have q1 := S.out.c1) | (go_at_call_of 60 (Value.string ⟨#[77]⟩); (first | refine (isE2 (by first | exact S.out.sa | exact S.out.drew.sa) false rfl).mono ?_ | refine (isE2 (by first | exact S.out.sa | exact S.out.drew.sa) true rfl).mono ?_); rintro e w1 ⟨rfl, hb⟩; have S : Hid (BX w w1 b0 gn gi 3 cn ci nLE _) := (by first | exact S.out.below hb | exact S.out.drew.below hb); clear hb; (try clear q0 q1); have q0 := S.out.c0; have q1 := S.out.c1) | (go_at_call_of 59 (Value.string ⟨#[81]⟩); refine (sayE1 (by first | exact S.out.sa | exact S.out.drew.sa) _).mono ?_; rintro e w1 ⟨rfl, hb⟩; have S : Hid (BX w w1 b0 gn gi 3 cn ci nLE _) := (by first | exact S.out.put hb rfl | exact S.out.drew.put hb rfl); clear hb; (try clear q0 q1); have q0 := S.out.c0; have q1 := S.out.c1) | (go_at_call_of 59 (Value.string ⟨#[77]⟩); refine (sayE2 (by first | exact S.out.sa | exact S.out.drew.sa) _).mono ?_; rintro e w1 ⟨rfl, hb⟩; have S : Hid (BX w w1 b0 gn gi 3 cn ci nLE _) := (by first | exact S.out.put hb rfl | exact S.out.drew.put hb rfl); clear hb; (try clear q0 q1); have q0 := S.out.c0; have q1 := S.out.c1))
    go_wp2_with fail
    refine wp_region_last _ (by kernel_rfl) (by kernel_rfl) rfl ?_
    intro cx
    simp only [List.dropLast]
    have zb := S.out.bl
    repeat (first | go_big_quiet_skip | (go_big_quiet_want; go_big_quiet_op; first | go_big_quiet_on | (refine ⟨_, fun _ => rfl, ?_⟩; go_big_quiet_on) | go_big_quiet_call (first | (go_at_call_of 60 (Value.string ⟨#[67, 76, 75]⟩); first | exact calls_sub (isE0 (S.out.sa.below (Sub.h _)) false rfl) | exact calls_sub (isE0 (S.out.sa.below (Sub.h _)) true rfl)) | (go_at_call_of 60 (Value.string ⟨#[77]⟩); first | exact calls_sub (isE2 (S.out.sa.below (Sub.h _)) false rfl) | exact calls_sub (isE2 (S.out.sa.below (Sub.h _)) true rfl)))))
    refine wpQuiet_nil ?_
    rintro _ ⟨y, rfl⟩
    clear cx
    have S : Hid (BX w y.w b0 gn gi 3 cn ci nLE _) := S.out.below y.h
    clear q0 q1 zb
    have q0 := S.out.c0
    have q1 := S.out.c1
    go_wp2_with (first | (go_at_call_of 60 (Value.string ⟨#[67, 76, 75]⟩); (first | refine (isE0 (by first | exact S.out.sa | exact S.out.drew.sa) false rfl).mono ?_ | refine (isE0 (by first | exact S.out.sa | exact S.out.drew.sa) true rfl).mono ?_); rintro e w1 ⟨rfl, hb⟩; have S : Hid (BX w w1 b0 gn gi 3 cn ci nLE _) := (by first | exact S.out.below hb | exact S.out.drew.below hb); clear hb; (try clear q0 q1); have q0 := S.out.c0; have q1 := S.out.c1) | (go_at_call_of 60 (Value.string ⟨#[77]⟩); (first | refine (isE2 (by first | exact S.out.sa | exact S.out.drew.sa) false rfl).mono ?_ | refine (isE2 (by first | exact S.out.sa | exact S.out.drew.sa) true rfl).mono ?_); rintro e w1 ⟨rfl, hb⟩; have S : Hid (BX w w1 b0 gn gi 3 cn ci nLE _) := (by first | exact S.out.below hb | exact S.out.drew.below hb); clear hb; (try clear q0 q1); have q0 := S.out.c0; have q1 := S.out.c1) | (go_at_call_of 59 (Value.string ⟨#[81]⟩); refine (sayE1 (by first | exact S.out.sa | exact S.out.drew.sa) _).mono ?_; rintro e w1 ⟨rfl, hb⟩; have S : Hid (BX w w1 b0 gn gi 3 cn ci nLE _) := (by first | exact S.out.put hb rfl | exact S.out.drew.put hb rfl); clear hb; (try clear q0 q1); have q0 := S.out.c0; have q1 := S.out.c1) | (go_at_call_of 59 (Value.string ⟨#[77]⟩); refine (sayE2 (by first | exact S.out.sa | exact S.out.drew.sa) _).mono ?_; rintro e w1 ⟨rfl, hb⟩; have S : Hid (BX w w1 b0 gn gi 3 cn ci nLE _) := (by first | exact S.out.put hb rfl | exact S.out.drew.put hb rfl); clear hb; (try clear q0 q1); have q0 := S.out.c0; have q1 := S.out.c1))
    go_end0
    exact ⟨rfl, S.out.ws.to rfl⟩
end Go.Proofs.YtjnegbjgogkamaaDoor
