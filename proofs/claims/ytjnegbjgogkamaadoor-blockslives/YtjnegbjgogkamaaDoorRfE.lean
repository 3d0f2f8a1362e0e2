/- The document's blocks: the counters; no statement of the seat is proved here. -/
import Derived.Test.YtjnegbjgogkamaaDoorRfB
import Derived.Test.YtjnegbjgogkamaaDoorRgL
namespace Go.Proofs.YtjnegbjgogkamaaDoor
set_option linter.unusedVariables false
open Go.RowKit
theorem rises_r {nm nn : ByteArray} {i j gn gi n cn ci : Nat} {L : List ByteArray} {l : List Int} {x y : Int} {w : World} (h : SA w gn gi n L l) (hi : At L nm i) (hx : l[i]? = some x) (hj : At L nn j) (hy : l[j]? = some y) (u : Bool) (hu : ((x != 0) && !(y != 0)) = u) :
    Calls Tryd.prog 62 #[SV gn gi n cn ci, .string nm, .string nn] w fun e w' => e = .returned (.bool u) ∧ Below w.heap.size w w' := by
  subst hu; exact risesR_of nm nn i j gn gi n cn ci L l x y w h hi hx hj hy _ _ rfl rfl
theorem tN_b {x : Int} (h : B01 x) : tN (x != 0) = x := by rcases h with rfl | rfl <;> rfl
set_option maxRecDepth 20000 in
set_option maxHeartbeats 8000000 in
theorem count_5 (gn gi cn ci : Nat) (cu r pv q cv m : Int) (w : World) (h : SA w gn gi 6 nLU [cu, r, pv, q, cv, m]) (hcu : B01 cu) (hr : B01 r) (hq : B01 q) (hm : B01 m) (hpv : -32768 ≤ pv ∧ pv ≤ 32767) (hcv : -32768 ≤ cv ∧ cv ≤ 32767) :
    Calls Tryd.prog 38 #[SV gn gi 6 cn ci, .int .i64 5] w fun e w' => e = .returned (.tuple #[]) ∧ Ws w w' gi (nxt 5 0 [cu, r, pv, q, cv, m]) := by
  obtain ⟨up, hup⟩ : ∃ up, ((cu != 0) && !(m != 0)) = up := ⟨_, rfl⟩
  have UP : Hid (((cu != 0) && !(m != 0)) = up) := hup
  have HC : Hid (B01 cu) := hcu
  have HM : Hid (B01 m) := hm
  clear hup hcu hm
  rcases hr with rfl | rfl
  cases up
  rotate_left 1
  by_cases hc : cv < 32767
  all_goals
    have S0 : Hid (SA w gn gi 6 nLU _) := h
    clear h
    go_enter Tryd.func38, Tryd.ntmps38
    go_wp2_with fail
    have S : Hid (BX w (w.alloc (.cells #[.slice (some ⟨gn, 0, none⟩) 6 cn, .slice (some ⟨gi, 0, none⟩) 6 ci] 71)) w.heap.size gn gi 6 cn ci nLU _) := BX.new cn ci S0.out
    have q0 := S.out.c0
    have q1 := S.out.c1
    generalize w.alloc (.cells #[.slice (some ⟨gn, 0, none⟩) 6 cn, .slice (some ⟨gi, 0, none⟩) 6 ci] 71) = W0 at S q0 q1 ⊢
    generalize w.heap.size = b0 at S q0 q1 ⊢
    go_wp2_with (first | (go_at_call_of 60 (Value.string ⟨#[67, 85]⟩); (first | refine (isU0 (by first | exact S.out.sa | exact S.out.drew.sa) false rfl).mono ?_ | refine (isU0 (by first | exact S.out.sa | exact S.out.drew.sa) true rfl).mono ?_ | refine (isU0 (by first | exact S.out.sa | exact S.out.drew.sa) _ rfl).mono ?_); rintro e w1 ⟨rfl, hb⟩; have S : Hid (BX w w1 b0 gn gi 6 cn ci nLU _) := (by first | exact S.out.below hb | exact S.out.drew.below hb); clear hb; (try clear q0 q1); have q0 := S.out.c0; have q1 := S.out.c1) | (go_at_call_of 60 (Value.string ⟨#[82]⟩); (first | refine (isU1 (by first | exact S.out.sa | exact S.out.drew.sa) false rfl).mono ?_ | refine (isU1 (by first | exact S.out.sa | exact S.out.drew.sa) true rfl).mono ?_ | refine (isU1 (by first | exact S.out.sa | exact S.out.drew.sa) _ rfl).mono ?_); rintro e w1 ⟨rfl, hb⟩; have S : Hid (BX w w1 b0 gn gi 6 cn ci nLU _) := (by first | exact S.out.below hb | exact S.out.drew.below hb); clear hb; (try clear q0 q1); have q0 := S.out.c0; have q1 := S.out.c1) | (go_at_call_of 61 (Value.string ⟨#[80, 86]⟩); refine (getU2 (by first | exact S.out.sa | exact S.out.drew.sa)).mono ?_; rintro e w1 ⟨rfl, hb⟩; have S : Hid (BX w w1 b0 gn gi 6 cn ci nLU _) := (by first | exact S.out.below hb | exact S.out.drew.below hb); clear hb; (try clear q0 q1); have q0 := S.out.c0; have q1 := S.out.c1) | (go_at_call_of 61 (Value.string ⟨#[67, 86]⟩); refine (getU4 (by first | exact S.out.sa | exact S.out.drew.sa)).mono ?_; rintro e w1 ⟨rfl, hb⟩; have S : Hid (BX w w1 b0 gn gi 6 cn ci nLU _) := (by first | exact S.out.below hb | exact S.out.drew.below hb); clear hb; (try clear q0 q1); have q0 := S.out.c0; have q1 := S.out.c1) | (go_at_call_of 63 (Value.string ⟨#[67, 86]⟩); refine (putU4 (by first | exact S.out.sa | exact S.out.drew.sa) _).mono ?_; rintro e w1 ⟨rfl, hb⟩; have S : Hid (BX w w1 b0 gn gi 6 cn ci nLU _) := (by first | exact S.out.put hb rfl | exact S.out.drew.put hb rfl); clear hb; (try clear q0 q1); have q0 := S.out.c0; have q1 := S.out.c1) | (go_at_call_of 59 (Value.string ⟨#[81]⟩); refine (sayU3 (by first | exact S.out.sa | exact S.out.drew.sa) _).mono ?_; rintro e w1 ⟨rfl, hb⟩; have S : Hid (BX w w1 b0 gn gi 6 cn ci nLU _) := (by first | exact S.out.put hb rfl | exact S.out.drew.put hb rfl); clear hb; (try clear q0 q1); have q0 := S.out.c0; have q1 := S.out.c1) | (go_at_call_of 59 (Value.string ⟨#[77]⟩); refine (sayU5 (by first | exact S.out.sa | exact S.out.drew.sa) _).mono ?_; rintro e w1 ⟨rfl, hb⟩; have S : Hid (BX w w1 b0 gn gi 6 cn ci nLU _) := (by first | exact S.out.put hb rfl | exact S.out.drew.put hb rfl); clear hb; (try clear q0 q1); have q0 := S.out.c0; have q1 := S.out.c1) | (go_at_call_of 62 (Value.string ⟨#[67, 85]⟩); refine (rises_r (nm := ⟨#[67, 85]⟩) (nn := ⟨#[77]⟩) (i := 0) (j := 5) (by first | exact S.out.sa | exact S.out.drew.sa) (at_b rfl) rfl (at_b rfl) rfl _ UP.out).mono ?_; rintro e w1 ⟨rfl, hb⟩; have S : Hid (BX w w1 b0 gn gi 6 cn ci nLU _) := (by first | exact S.out.below hb | exact S.out.drew.below hb); clear hb; (try clear q0 q1); have q0 := S.out.c0; have q1 := S.out.c1))
    refine wp_region_last _ (by kernel_rfl) (by kernel_rfl) rfl ?_
    intro cx
    simp only [List.dropLast]
    have zb := S.out.bl
    repeat (first | go_big_quiet_skip | (go_big_quiet_want; go_big_quiet_op; first | go_big_quiet_on | (refine ⟨_, fun _ => rfl, ?_⟩; go_big_quiet_on) | go_big_quiet_call (first | (go_at_call_of 61 (Value.string ⟨#[80, 86]⟩); exact calls_sub (getU2 (S.out.sa.below (Sub.h _)))))))
    refine wpQuiet_nil ?_
    rintro _ ⟨y, rfl⟩
    clear cx
    have S : Hid (BX w y.w b0 gn gi 6 cn ci nLU _) := S.out.below y.h
    clear q0 q1 zb
    have q0 := S.out.c0
    have q1 := S.out.c1
    go_wp2_with (first | (go_at_call_of 60 (Value.string ⟨#[67, 85]⟩); (first | refine (isU0 (by first | exact S.out.sa | exact S.out.drew.sa) false rfl).mono ?_ | refine (isU0 (by first | exact S.out.sa | exact S.out.drew.sa) true rfl).mono ?_ | refine (isU0 (by first | exact S.out.sa | exact S.out.drew.sa) _ rfl).mono ?_); rintro e w1 ⟨rfl, hb⟩; have S : Hid (BX w w1 b0 gn gi 6 cn ci nLU _) := (by first | exact S.out.below hb | exact S.out.drew.below hb); clear hb; (try clear q0 q1); have q0 := S.out.c0; have q1 := S.out.c1) | (go_at_call_of 60 (Value.string ⟨#[82]⟩); (first | refine (isU1 (by first | exact S.out.sa | exact S.out.drew.sa) false rfl).mono ?_ | refine (isU1 (by first | exact S.out.sa | exact S.out.drew.sa) true rfl).mono ?_ | refine (isU1 (by first | exact S.out.sa | exact S.out.drew.sa) _ rfl).mono ?_); rintro e w1 ⟨rfl, hb⟩; have S : Hid (BX w w1 b0 gn gi 6 cn ci nLU _) := (by first | exact S.out.below hb | exact S.out.drew.below hb); clear hb; (try clear q0 q1); have q0 := S.out.c0; have q1 := S.out.c1) | (go_at_call_of 61 (Value.string ⟨#[80, 86]⟩); refine (getU2 (by first | exact S.out.sa | exact S.out.drew.sa)).mono ?_; rintro e w1 ⟨rfl, hb⟩; have S : Hid (BX w w1 b0 gn gi 6 cn ci nLU _) := (by first | exact S.out.below hb | exact S.out.drew.below hb); clear hb; (try clear q0 q1); have q0 := S.out.c0; have q1 := S.out.c1) | (go_at_call_of 61 (Value.string ⟨#[67, 86]⟩); refine (getU4 (by first | exact S.out.sa | exact S.out.drew.sa)).mono ?_; rintro e w1 ⟨rfl, hb⟩; have S : Hid (BX w w1 b0 gn gi 6 cn ci nLU _) := (by first | exact S.out.below hb | exact S.out.drew.below hb); clear hb; (try clear q0 q1); have q0 := S.out.c0; have q1 := S.out.c1) | (go_at_call_of 63 (Value.string ⟨#[67, 86]⟩); refine (putU4 (by first | exact S.out.sa | exact S.out.drew.sa) _).mono ?_; rintro e w1 ⟨rfl, hb⟩; have S : Hid (BX w w1 b0 gn gi 6 cn ci nLU _) := (by first | exact S.out.put hb rfl | exact S.out.drew.put hb rfl); clear hb; (try clear q0 q1); have q0 := S.out.c0; have q1 := S.out.c1) | (go_at_call_of 59 (Value.string ⟨#[81]⟩); refine (sayU3 (by first | exact S.out.sa | exact S.out.drew.sa) _).mono ?_; rintro e w1 ⟨rfl, hb⟩; have S : Hid (BX w w1 b0 gn gi 6 cn ci nLU _) := (by first | exact S.out.put hb rfl | exact S.out.drew.put hb rfl); clear hb; (try clear q0 q1); have q0 := S.out.c0; have q1 := S.out.c1) | (go_at_call_of 59 (Value.string ⟨#[77]⟩); refine (sayU5 (by first | exact S.out.sa | exact S.out.drew.sa) _).mono ?_; rintro e w1 ⟨rfl, hb⟩; have S : Hid (BX w w1 b0 gn gi 6 cn ci nLU _) := (by first | exact S.out.put hb rfl | exact S.out.drew.put hb rfl); clear hb; (try clear q0 q1); have q0 := S.out.c0; have q1 := S.out.c1) | (go_at_call_of 62 (Value.string ⟨#[67, 85]⟩); refine (rises_r (nm := ⟨#[67, 85]⟩) (nn := ⟨#[77]⟩) (i := 0) (j := 5) (by first | exact S.out.sa | exact S.out.drew.sa) (at_b rfl) rfl (at_b rfl) rfl _ UP.out).mono ?_; rintro e w1 ⟨rfl, hb⟩; have S : Hid (BX w w1 b0 gn gi 6 cn ci nLU _) := (by first | exact S.out.below hb | exact S.out.drew.below hb); clear hb; (try clear q0 q1); have q0 := S.out.c0; have q1 := S.out.c1))
    refine wp_region_last _ (by kernel_rfl) (by kernel_rfl) rfl ?_
    intro cx
    simp only [List.dropLast]
    have zb := S.out.bl
    repeat (first | go_big_quiet_skip | (go_big_quiet_want; go_big_quiet_op; first | go_big_quiet_on | (refine ⟨_, fun _ => rfl, ?_⟩; go_big_quiet_on) | go_big_quiet_call (first | (go_at_call_of 60 (Value.string ⟨#[67, 85]⟩); first | exact calls_sub (isU0 (S.out.sa.below (Sub.h _)) _ rfl)))))
    refine wpQuiet_nil ?_
    rintro _ ⟨y, rfl⟩
    clear cx
    have S : Hid (BX w y.w b0 gn gi 6 cn ci nLU _) := S.out.below y.h
    clear q0 q1 zb
    have q0 := S.out.c0
    have q1 := S.out.c1
    go_wp2_with (first | (go_at_call_of 60 (Value.string ⟨#[67, 85]⟩); (first | refine (isU0 (by first | exact S.out.sa | exact S.out.drew.sa) false rfl).mono ?_ | refine (isU0 (by first | exact S.out.sa | exact S.out.drew.sa) true rfl).mono ?_ | refine (isU0 (by first | exact S.out.sa | exact S.out.drew.sa) _ rfl).mono ?_); rintro e w1 ⟨rfl, hb⟩; have S : Hid (BX w w1 b0 gn gi 6 cn ci nLU _) := (by first | exact S.out.below hb | exact S.out.drew.below hb); clear hb; (try clear q0 q1); have q0 := S.out.c0; have q1 := S.out.c1) | (go_at_call_of 60 (Value.string ⟨#[82]⟩); (first | refine (isU1 (by first | exact S.out.sa | exact S.out.drew.sa) false rfl).mono ?_ | refine (isU1 (by first | exact S.out.sa | exact S.out.drew.sa) true rfl).mono ?_ | refine (isU1 (by first | exact S.out.sa | exact S.out.drew.sa) _ rfl).mono ?_); rintro e w1 ⟨rfl, hb⟩; have S : Hid (BX w w1 b0 gn gi 6 cn ci nLU _) := (by first | exact S.out.below hb | exact S.out.drew.below hb); clear hb; (try clear q0 q1); have q0 := S.out.c0; have q1 := S.out.c1) | (go_at_call_of 61 (Value.string ⟨#[80, 86]⟩); refine (getU2 (by first | exact S.out.sa | exact S.out.drew.sa)).mono ?_; rintro e w1 ⟨rfl, hb⟩; have S : Hid (BX w w1 b0 gn gi 6 cn ci nLU _) := (by first | exact S.out.below hb | exact S.out.drew.below hb); clear hb; (try clear q0 q1); have q0 := S.out.c0; have q1 := S.out.c1) | (go_at_call_of 61 (Value.string ⟨#[67, 86]⟩); refine (getU4 (by first | exact S.out.sa | exact S.out.drew.sa)).mono ?_; rintro e w1 ⟨rfl, hb⟩; have S : Hid (BX w w1 b0 gn gi 6 cn ci nLU _) := (by first | exact S.out.below hb | exact S.out.drew.below hb); clear hb; (try clear q0 q1); have q0 := S.out.c0; have q1 := S.out.c1) | (go_at_call_of 63 (Value.string ⟨#[67, 86]⟩); refine (putU4 (by first | exact S.out.sa | exact S.out.drew.sa) _).mono ?_; rintro e w1 ⟨rfl, hb⟩; have S : Hid (BX w w1 b0 gn gi 6 cn ci nLU _) := (by first | exact S.out.put hb rfl | exact S.out.drew.put hb rfl); clear hb; (try clear q0 q1); have q0 := S.out.c0; have q1 := S.out.c1) | (go_at_call_of 59 (Value.string ⟨#[81]⟩); refine (sayU3 (by first | exact S.out.sa | exact S.out.drew.sa) _).mono ?_; rintro e w1 ⟨rfl, hb⟩; have S : Hid (BX w w1 b0 gn gi 6 cn ci nLU _) := (by first | exact S.out.put hb rfl | exact S.out.drew.put hb rfl); clear hb; (try clear q0 q1); have q0 := S.out.c0; have q1 := S.out.c1) | (go_at_call_of 59 (Value.string ⟨#[77]⟩); refine (sayU5 (by first | exact S.out.sa | exact S.out.drew.sa) _).mono ?_; rintro e w1 ⟨rfl, hb⟩; have S : Hid (BX w w1 b0 gn gi 6 cn ci nLU _) := (by first | exact S.out.put hb rfl | exact S.out.drew.put hb rfl); clear hb; (try clear q0 q1); have q0 := S.out.c0; have q1 := S.out.c1) | (go_at_call_of 62 (Value.string ⟨#[67, 85]⟩); refine (rises_r (nm := ⟨#[67, 85]⟩) (nn := ⟨#[77]⟩) (i := 0) (j := 5) (by first | exact S.out.sa | exact S.out.drew.sa) (at_b rfl) rfl (at_b rfl) rfl _ UP.out).mono ?_; rintro e w1 ⟨rfl, hb⟩; have S : Hid (BX w w1 b0 gn gi 6 cn ci nLU _) := (by first | exact S.out.below hb | exact S.out.drew.below hb); clear hb; (try clear q0 q1); have q0 := S.out.c0; have q1 := S.out.c1))
    go_end0
    refine ⟨rfl, S.out.ws.to ?_⟩
    have u := UP.out
    unfold nxt
    (try unfold vU)
    (try unfold cUp)
    (try unfold tN)
    rcases HC.out with rfl | rfl <;> rcases HM.out with rfl | rfl <;> first | (exfalso; revert u; decide) | (exfalso; revert u'; decide) | rfl | (simp [*]; done) | (simp [*]; omega)
set_option maxRecDepth 20000 in
set_option maxHeartbeats 8000000 in
theorem count_6 (gn gi cn ci : Nat) (cd ld pv q cv m : Int) (w : World) (h : SA w gn gi 6 nLD [cd, ld, pv, q, cv, m]) (hcd : B01 cd) (hld : B01 ld) (hq : B01 q) (hm : B01 m) (hpv : -32768 ≤ pv ∧ pv ≤ 32767) (hcv : -32768 ≤ cv ∧ cv ≤ 32767) :
    Calls Tryd.prog 38 #[SV gn gi 6 cn ci, .int .i64 6] w fun e w' => e = .returned (.tuple #[]) ∧ Ws w w' gi (nxt 6 0 [cd, ld, pv, q, cv, m]) := by
  obtain ⟨up, hup⟩ : ∃ up, ((cd != 0) && !(m != 0)) = up := ⟨_, rfl⟩
  have UP : Hid (((cd != 0) && !(m != 0)) = up) := hup
  have HC : Hid (B01 cd) := hcd
  have HM : Hid (B01 m) := hm
  clear hup hcd hm
  rcases hld with rfl | rfl
  cases up
  rotate_left 1
  by_cases hc : -32768 < cv
  rotate_left 2
  cases up
  all_goals
    have S0 : Hid (SA w gn gi 6 nLD _) := h
    clear h
    go_enter Tryd.func38, Tryd.ntmps38
    go_wp2_with fail
    have S : Hid (BX w (w.alloc (.cells #[.slice (some ⟨gn, 0, none⟩) 6 cn, .slice (some ⟨gi, 0, none⟩) 6 ci] 71)) w.heap.size gn gi 6 cn ci nLD _) := BX.new cn ci S0.out
    have q0 := S.out.c0
    have q1 := S.out.c1
    generalize w.alloc (.cells #[.slice (some ⟨gn, 0, none⟩) 6 cn, .slice (some ⟨gi, 0, none⟩) 6 ci] 71) = W0 at S q0 q1 ⊢
    generalize w.heap.size = b0 at S q0 q1 ⊢
    go_wp2_with (first | (go_at_call_of 60 (Value.string ⟨#[67, 68]⟩); (first | refine (isD0 (by first | exact S.out.sa | exact S.out.drew.sa) false rfl).mono ?_ | refine (isD0 (by first | exact S.out.sa | exact S.out.drew.sa) true rfl).mono ?_ | refine (isD0 (by first | exact S.out.sa | exact S.out.drew.sa) _ rfl).mono ?_); rintro e w1 ⟨rfl, hb⟩; have S : Hid (BX w w1 b0 gn gi 6 cn ci nLD _) := (by first | exact S.out.below hb | exact S.out.drew.below hb); clear hb; (try clear q0 q1); have q0 := S.out.c0; have q1 := S.out.c1) | (go_at_call_of 60 (Value.string ⟨#[76, 68]⟩); (first | refine (isD1 (by first | exact S.out.sa | exact S.out.drew.sa) false rfl).mono ?_ | refine (isD1 (by first | exact S.out.sa | exact S.out.drew.sa) true rfl).mono ?_ | refine (isD1 (by first | exact S.out.sa | exact S.out.drew.sa) _ rfl).mono ?_); rintro e w1 ⟨rfl, hb⟩; have S : Hid (BX w w1 b0 gn gi 6 cn ci nLD _) := (by first | exact S.out.below hb | exact S.out.drew.below hb); clear hb; (try clear q0 q1); have q0 := S.out.c0; have q1 := S.out.c1) | (go_at_call_of 61 (Value.string ⟨#[80, 86]⟩); refine (getD2 (by first | exact S.out.sa | exact S.out.drew.sa)).mono ?_; rintro e w1 ⟨rfl, hb⟩; have S : Hid (BX w w1 b0 gn gi 6 cn ci nLD _) := (by first | exact S.out.below hb | exact S.out.drew.below hb); clear hb; (try clear q0 q1); have q0 := S.out.c0; have q1 := S.out.c1) | (go_at_call_of 61 (Value.string ⟨#[67, 86]⟩); refine (getD4 (by first | exact S.out.sa | exact S.out.drew.sa)).mono ?_; rintro e w1 ⟨rfl, hb⟩; have S : Hid (BX w w1 b0 gn gi 6 cn ci nLD _) := (by first | exact S.out.below hb | exact S.out.drew.below hb); clear hb; (try clear q0 q1); have q0 := S.out.c0; have q1 := S.out.c1) | (go_at_call_of 63 (Value.string ⟨#[67, 86]⟩); refine (putD4 (by first | exact S.out.sa | exact S.out.drew.sa) _).mono ?_; rintro e w1 ⟨rfl, hb⟩; have S : Hid (BX w w1 b0 gn gi 6 cn ci nLD _) := (by first | exact S.out.put hb rfl | exact S.out.drew.put hb rfl); clear hb; (try clear q0 q1); have q0 := S.out.c0; have q1 := S.out.c1) | (go_at_call_of 59 (Value.string ⟨#[81]⟩); refine (sayD3 (by first | exact S.out.sa | exact S.out.drew.sa) _).mono ?_; rintro e w1 ⟨rfl, hb⟩; have S : Hid (BX w w1 b0 gn gi 6 cn ci nLD _) := (by first | exact S.out.put hb rfl | exact S.out.drew.put hb rfl); clear hb; (try clear q0 q1); have q0 := S.out.c0; have q1 := S.out.c1) | (go_at_call_of 59 (Value.string ⟨#[77]⟩); refine (sayD5 (by first | exact S.out.sa | exact S.out.drew.sa) _).mono ?_; rintro e w1 ⟨rfl, hb⟩; have S : Hid (BX w w1 b0 gn gi 6 cn ci nLD _) := (by first | exact S.out.put hb rfl | exact S.out.drew.put hb rfl); clear hb; (try clear q0 q1); have q0 := S.out.c0; have q1 := S.out.c1) | (go_at_call_of 62 (Value.string ⟨#[67, 68]⟩); refine (rises_r (nm := ⟨#[67, 68]⟩) (nn := ⟨#[77]⟩) (i := 0) (j := 5) (by first | exact S.out.sa | exact S.out.drew.sa) (at_b rfl) rfl (at_b rfl) rfl _ UP.out).mono ?_; rintro e w1 ⟨rfl, hb⟩; have S : Hid (BX w w1 b0 gn gi 6 cn ci nLD _) := (by first | exact S.out.below hb | exact S.out.drew.below hb); clear hb; (try clear q0 q1); have q0 := S.out.c0; have q1 := S.out.c1))
    refine wp_region_last _ (by kernel_rfl) (by kernel_rfl) rfl ?_
    intro cx
    simp only [List.dropLast]
    have zb := S.out.bl
    repeat (first | go_big_quiet_skip | (go_big_quiet_want; go_big_quiet_op; first | go_big_quiet_on | (refine ⟨_, fun _ => rfl, ?_⟩; go_big_quiet_on) | go_big_quiet_call (first | (go_at_call_of 60 (Value.string ⟨#[67, 68]⟩); first | exact calls_sub (isD0 (S.out.sa.below (Sub.h _)) _ rfl)))))
    refine wpQuiet_nil ?_
    rintro _ ⟨y, rfl⟩
    clear cx
    have S : Hid (BX w y.w b0 gn gi 6 cn ci nLD _) := S.out.below y.h
    clear q0 q1 zb
    have q0 := S.out.c0
    have q1 := S.out.c1
    go_wp2_with (first | (go_at_call_of 60 (Value.string ⟨#[67, 68]⟩); (first | refine (isD0 (by first | exact S.out.sa | exact S.out.drew.sa) false rfl).mono ?_ | refine (isD0 (by first | exact S.out.sa | exact S.out.drew.sa) true rfl).mono ?_ | refine (isD0 (by first | exact S.out.sa | exact S.out.drew.sa) _ rfl).mono ?_); rintro e w1 ⟨rfl, hb⟩; have S : Hid (BX w w1 b0 gn gi 6 cn ci nLD _) := (by first | exact S.out.below hb | exact S.out.drew.below hb); clear hb; (try clear q0 q1); have q0 := S.out.c0; have q1 := S.out.c1) | (go_at_call_of 60 (Value.string ⟨#[76, 68]⟩); (first | refine (isD1 (by first | exact S.out.sa | exact S.out.drew.sa) false rfl).mono ?_ | refine (isD1 (by first | exact S.out.sa | exact S.out.drew.sa) true rfl).mono ?_ | refine (isD1 (by first | exact S.out.sa | exact S.out.drew.sa) _ rfl).mono ?_); rintro e w1 ⟨rfl, hb⟩; have S : Hid (BX w w1 b0 gn gi 6 cn ci nLD _) := (by first | exact S.out.below hb | exact S.out.drew.below hb); clear hb; (try clear q0 q1); have q0 := S.out.c0; have q1 := S.out.c1) | (go_at_call_of 61 (Value.string ⟨#[80, 86]⟩); refine (getD2 (by first | exact S.out.sa | exact S.out.drew.sa)).mono ?_; rintro e w1 ⟨rfl, hb⟩; have S : Hid (BX w w1 b0 gn gi 6 cn ci nLD _) := (by first | exact S.out.below hb | exact S.out.drew.below hb); clear hb; (try clear q0 q1); have q0 := S.out.c0; have q1 := S.out.c1) | (go_at_call_of 61 (Value.string ⟨#[67, 86]⟩); refine (getD4 (by first | exact S.out.sa | exact S.out.drew.sa)).mono ?_; rintro e w1 ⟨rfl, hb⟩; have S : Hid (BX w w1 b0 gn gi 6 cn ci nLD _) := (by first | exact S.out.below hb | exact S.out.drew.below hb); clear hb; (try clear q0 q1); have q0 := S.out.c0; have q1 := S.out.c1) | (go_at_call_of 63 (Value.string ⟨#[67, 86]⟩); refine (putD4 (by first | exact S.out.sa | exact S.out.drew.sa) _).mono ?_; rintro e w1 ⟨rfl, hb⟩; have S : Hid (BX w w1 b0 gn gi 6 cn ci nLD _) := (by first | exact S.out.put hb rfl | exact S.out.drew.put hb rfl); clear hb; (try clear q0 q1); have q0 := S.out.c0; have q1 := S.out.c1) | (go_at_call_of 59 (Value.string ⟨#[81]⟩); refine (sayD3 (by first | exact S.out.sa | exact S.out.drew.sa) _).mono ?_; rintro e w1 ⟨rfl, hb⟩; have S : Hid (BX w w1 b0 gn gi 6 cn ci nLD _) := (by first | exact S.out.put hb rfl | exact S.out.drew.put hb rfl); clear hb; (try clear q0 q1); have q0 := S.out.c0; have q1 := S.out.c1) | (go_at_call_of 59 (Value.string ⟨#[77]⟩); refine (sayD5 (by first | exact S.out.sa | exact S.out.drew.sa) _).mono ?_; rintro e w1 ⟨rfl, hb⟩; have S : Hid (BX w w1 b0 gn gi 6 cn ci nLD _) := (by first | exact S.out.put hb rfl | exact S.out.drew.put hb rfl); clear hb; (try clear q0 q1); have q0 := S.out.c0; have q1 := S.out.c1) | (go_at_call_of 62 (Value.string ⟨#[67, 68]⟩); refine (rises_r (nm := ⟨#[67, 68]⟩) (nn := ⟨#[77]⟩) (i := 0) (j := 5) (by first | exact S.out.sa | exact S.out.drew.sa) (at_b rfl) rfl (at_b rfl) rfl _ UP.out).mono ?_; rintro e w1 ⟨rfl, hb⟩; have S : Hid (BX w w1 b0 gn gi 6 cn ci nLD _) := (by first | exact S.out.below hb | exact S.out.drew.below hb); clear hb; (try clear q0 q1); have q0 := S.out.c0; have q1 := S.out.c1))
    go_end0
    refine ⟨rfl, S.out.ws.to ?_⟩
    have u := UP.out
    unfold nxt
    (try unfold vD)
    (try unfold cDn)
    (try unfold tN)
    rcases HC.out with rfl | rfl <;> rcases HM.out with rfl | rfl <;> first | (exfalso; revert u; decide) | (exfalso; revert u'; decide) | rfl | (simp [*]; done) | (simp [*]; omega)
end Go.Proofs.YtjnegbjgogkamaaDoor
