/- The document's blocks: how long ago a timer began, and what a span that has gone by does; no statement of the seat is proved here. -/
import Derived.Test.YtjnegbjgogkamaaDoorRfB
import Derived.Test.YtjnegbjgogkamaaDoorRgL
namespace Go.Proofs.YtjnegbjgogkamaaDoor
set_option linter.unusedVariables false
open Go.RowKit
theorem Ws.same {w w' : World} {g : Nat} {l : List Int} (h : Ws w w' g l) (e : w'.heap[g]? = w.heap[g]?) : Below w.heap.size w w' :=
  ⟨h.os, h.tape, h.output, h.size, fun k hk => by
    by_cases c : k = g
    · rw [c]; exact e
    · exact h.other k hk c⟩
set_option maxRecDepth 20000 in
set_option maxHeartbeats 4000000 in
theorem since_of (gn gi cn ci : Nat) (now a b c d m s : Int) (w : World) (h : SA w gn gi 6 nLT [a, b, c, d, m, s]) (hs : -9223372036854775808 ≤ s ∧ s < 9223372036854775808) (hn : 0 ≤ now ∧ now ≤ 4611686018427387904) :
    Calls Tryd.prog 65 #[SV gn gi 6 cn ci, .int .i64 now] w fun e w' => e = .returned (.int .i64 (sinc now s)) ∧ Below w.heap.size w w' := by
  by_cases c1 : s < 0
  · have R : Hid (sinc now s = 0) := by show _ = _; unfold sinc; rw [if_neg (by omega)]
    have S0 : Hid (SA w gn gi 6 nLT [a, b, c, d, m, s]) := h
    clear h
    go_enter Tryd.func65, Tryd.ntmps65
    go_wp2_with fail
    have S : Hid (BX w (w.alloc (.cells #[.slice (some ⟨gn, 0, none⟩) 6 cn, .slice (some ⟨gi, 0, none⟩) 6 ci] 71)) w.heap.size gn gi 6 cn ci nLT [a, b, c, d, m, s]) := BX.new cn ci S0.out
    have q0 := S.out.c0
    have q1 := S.out.c1
    have BL : Hid (Below w.heap.size w (w.alloc (.cells #[.slice (some ⟨gn, 0, none⟩) 6 cn, .slice (some ⟨gi, 0, none⟩) 6 ci] 71))) := (Below.refl _ _).alloc (Nat.le_refl _) _
    generalize w.alloc (.cells #[.slice (some ⟨gn, 0, none⟩) 6 cn, .slice (some ⟨gi, 0, none⟩) 6 ci] 71) = W0 at S q0 q1 BL ⊢
    go_wp2_with ((go_at_call_of 61 (Value.string ⟨#[83]⟩); refine (getT5 (by first | exact S.out.sa | exact S.out.drew.sa)).mono ?_; rintro e w1 ⟨rfl, hb⟩; have S : Hid (BX w w1 w.heap.size gn gi 6 cn ci nLT _) := (by first | exact S.out.below hb | exact S.out.drew.below hb); have BL : Hid (Below w.heap.size w w1) := (by first | exact below_stp BL.out hb | exact below_stp BL.out.drew hb); clear hb; (try clear q0 q1); have q0 := S.out.c0; have q1 := S.out.c1))
    go_ret
    exact ⟨by rw [R.out]; rfl, BL.out⟩
  by_cases c2 : now < s
  · have R : Hid (sinc now s = 0) := by show _ = _; unfold sinc; rw [if_neg (by omega)]
    have S0 : Hid (SA w gn gi 6 nLT [a, b, c, d, m, s]) := h
    clear h
    go_enter Tryd.func65, Tryd.ntmps65
    go_wp2_with fail
    have S : Hid (BX w (w.alloc (.cells #[.slice (some ⟨gn, 0, none⟩) 6 cn, .slice (some ⟨gi, 0, none⟩) 6 ci] 71)) w.heap.size gn gi 6 cn ci nLT [a, b, c, d, m, s]) := BX.new cn ci S0.out
    have q0 := S.out.c0
    have q1 := S.out.c1
    have BL : Hid (Below w.heap.size w (w.alloc (.cells #[.slice (some ⟨gn, 0, none⟩) 6 cn, .slice (some ⟨gi, 0, none⟩) 6 ci] 71))) := (Below.refl _ _).alloc (Nat.le_refl _) _
    generalize w.alloc (.cells #[.slice (some ⟨gn, 0, none⟩) 6 cn, .slice (some ⟨gi, 0, none⟩) 6 ci] 71) = W0 at S q0 q1 BL ⊢
    go_wp2_with ((go_at_call_of 61 (Value.string ⟨#[83]⟩); refine (getT5 (by first | exact S.out.sa | exact S.out.drew.sa)).mono ?_; rintro e w1 ⟨rfl, hb⟩; have S : Hid (BX w w1 w.heap.size gn gi 6 cn ci nLT _) := (by first | exact S.out.below hb | exact S.out.drew.below hb); have BL : Hid (Below w.heap.size w w1) := (by first | exact below_stp BL.out hb | exact below_stp BL.out.drew hb); clear hb; (try clear q0 q1); have q0 := S.out.c0; have q1 := S.out.c1))
    go_ret
    exact ⟨by rw [R.out]; rfl, BL.out⟩
  · have R : Hid (sinc now s = now - s) := by show _ = _; unfold sinc; rw [if_pos (by omega)]
    have S0 : Hid (SA w gn gi 6 nLT [a, b, c, d, m, s]) := h
    clear h
    go_enter Tryd.func65, Tryd.ntmps65
    go_wp2_with fail
    have S : Hid (BX w (w.alloc (.cells #[.slice (some ⟨gn, 0, none⟩) 6 cn, .slice (some ⟨gi, 0, none⟩) 6 ci] 71)) w.heap.size gn gi 6 cn ci nLT [a, b, c, d, m, s]) := BX.new cn ci S0.out
    have q0 := S.out.c0
    have q1 := S.out.c1
    have BL : Hid (Below w.heap.size w (w.alloc (.cells #[.slice (some ⟨gn, 0, none⟩) 6 cn, .slice (some ⟨gi, 0, none⟩) 6 ci] 71))) := (Below.refl _ _).alloc (Nat.le_refl _) _
    generalize w.alloc (.cells #[.slice (some ⟨gn, 0, none⟩) 6 cn, .slice (some ⟨gi, 0, none⟩) 6 ci] 71) = W0 at S q0 q1 BL ⊢
    go_wp2_with ((go_at_call_of 61 (Value.string ⟨#[83]⟩); refine (getT5 (by first | exact S.out.sa | exact S.out.drew.sa)).mono ?_; rintro e w1 ⟨rfl, hb⟩; have S : Hid (BX w w1 w.heap.size gn gi 6 cn ci nLT _) := (by first | exact S.out.below hb | exact S.out.drew.below hb); have BL : Hid (Below w.heap.size w w1) := (by first | exact below_stp BL.out hb | exact below_stp BL.out.drew hb); clear hb; (try clear q0 q1); have q0 := S.out.c0; have q1 := S.out.c1))
    go_ret
    exact ⟨by rw [R.out]; rfl, BL.out⟩
set_option maxRecDepth 20000 in
set_option maxHeartbeats 4000000 in
theorem spent_of (gn gi cn ci : Nat) (since span a b c d m s : Int) (w : World) (h : SA w gn gi 6 nLT [a, b, c, d, m, s]) :
    Calls Tryd.prog 64 #[SV gn gi 6 cn ci, .int .i64 since, .int .i64 span] w fun e w' => e = .returned (.tuple #[]) ∧ Ws w w' gi (if span ≤ since then [a, b, 0, span, m, s] else [a, b, c, since, m, s]) := by
  by_cases c1 : span ≤ since
  · rw [if_pos c1]
    have S0 : Hid (SA w gn gi 6 nLT [a, b, c, d, m, s]) := h
    clear h
    go_enter Tryd.func64, Tryd.ntmps64
    go_wp2_with fail
    have S : Hid (BX w (w.alloc (.cells #[.slice (some ⟨gn, 0, none⟩) 6 cn, .slice (some ⟨gi, 0, none⟩) 6 ci] 71)) w.heap.size gn gi 6 cn ci nLT [a, b, c, d, m, s]) := BX.new cn ci S0.out
    have q0 := S.out.c0
    have q1 := S.out.c1
    generalize w.alloc (.cells #[.slice (some ⟨gn, 0, none⟩) 6 cn, .slice (some ⟨gi, 0, none⟩) 6 ci] 71) = W0 at S q0 q1 ⊢
    generalize w.heap.size = b0 at S q0 q1 ⊢
    go_wp2_with (first | (go_at_call_of 63 (Value.string ⟨#[69, 84]⟩); refine (putT3 (by first | exact S.out.sa | exact S.out.drew.sa) _).mono ?_; rintro e w1 ⟨rfl, hb⟩; have S : Hid (BX w w1 b0 gn gi 6 cn ci nLT _) := (by first | exact S.out.put hb rfl | exact S.out.drew.put hb rfl); clear hb; (try clear q0 q1); have q0 := S.out.c0; have q1 := S.out.c1) | (go_at_call_of 59 (Value.string ⟨#[81]⟩); refine (sayT2 (by first | exact S.out.sa | exact S.out.drew.sa) _).mono ?_; rintro e w1 ⟨rfl, hb⟩; have S : Hid (BX w w1 b0 gn gi 6 cn ci nLT _) := (by first | exact S.out.put hb rfl | exact S.out.drew.put hb rfl); clear hb; (try clear q0 q1); have q0 := S.out.c0; have q1 := S.out.c1))
    go_end0
    exact ⟨rfl, S.out.ws.to rfl⟩
  · rw [if_neg c1]
    have S0 : Hid (SA w gn gi 6 nLT [a, b, c, d, m, s]) := h
    clear h
    go_enter Tryd.func64, Tryd.ntmps64
    go_wp2_with fail
    have S : Hid (BX w (w.alloc (.cells #[.slice (some ⟨gn, 0, none⟩) 6 cn, .slice (some ⟨gi, 0, none⟩) 6 ci] 71)) w.heap.size gn gi 6 cn ci nLT [a, b, c, d, m, s]) := BX.new cn ci S0.out
    have q0 := S.out.c0
    have q1 := S.out.c1
    generalize w.alloc (.cells #[.slice (some ⟨gn, 0, none⟩) 6 cn, .slice (some ⟨gi, 0, none⟩) 6 ci] 71) = W0 at S q0 q1 ⊢
    generalize w.heap.size = b0 at S q0 q1 ⊢
    go_wp2_with (first | (go_at_call_of 63 (Value.string ⟨#[69, 84]⟩); refine (putT3 (by first | exact S.out.sa | exact S.out.drew.sa) _).mono ?_; rintro e w1 ⟨rfl, hb⟩; have S : Hid (BX w w1 b0 gn gi 6 cn ci nLT _) := (by first | exact S.out.put hb rfl | exact S.out.drew.put hb rfl); clear hb; (try clear q0 q1); have q0 := S.out.c0; have q1 := S.out.c1) | (go_at_call_of 59 (Value.string ⟨#[81]⟩); refine (sayT2 (by first | exact S.out.sa | exact S.out.drew.sa) _).mono ?_; rintro e w1 ⟨rfl, hb⟩; have S : Hid (BX w w1 b0 gn gi 6 cn ci nLT _) := (by first | exact S.out.put hb rfl | exact S.out.drew.put hb rfl); clear hb; (try clear q0 q1); have q0 := S.out.c0; have q1 := S.out.c1))
    go_end0
    exact ⟨rfl, S.out.ws.to rfl⟩
end Go.Proofs.YtjnegbjgogkamaaDoor
