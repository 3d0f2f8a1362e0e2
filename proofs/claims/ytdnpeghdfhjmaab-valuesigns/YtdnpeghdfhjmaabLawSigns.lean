/- ValueSigns is proved: for every value the statement's function returns true, and its argument reads as it did; no condition. -/
import Derived.Test.YtdnpeghdfhjmaabTurnE
import Derived.Test.YtdnpeghdfhjmaabOpen
import Derived.ShutString
import Derived.ChangeOld
import Derived.Below
namespace Go.Proofs.Ytdnpeghdfhjmaab.LawSigns
set_option linter.unusedVariables false
open Go.ChangeShapes Go.WideShapes Go.ChangeAt Go.RowKit
theorem own : ownKnob Try.prog.godebug = none := by kernel_rfl
theorem laidOut : laidOutB Try.prog = true := by kernel_rfl
theorem num_mod {k b : Int} (h0 : 0 ≤ b) (h1 : b < 18446744073709551616) : (num k b) % 18446744073709551616 = b := by
  unfold num wrap64; split <;> omega
theorem flip_flip (b : Int) (h0 : 0 ≤ b) (h1 : b < 18446744073709551616) : (flipN (flipN b : Int) : Int) = b := by
  unfold flipN
  simp only [Int.toNat_natCast]
  rw [Nat.xor_assoc, Nat.xor_self, Nat.xor_zero]; omega
theorem flip_lt (b : Int) (h0 : 0 ≤ b) (h1 : b < 18446744073709551616) : (flipN b : Int) < 18446744073709551616 := by
  unfold flipN
  have : b.toNat ^^^ 9223372036854775808 < 2 ^ 64 := Nat.xor_lt_two_pow (by omega) (by omega)
  have e : (2 : Nat) ^ 64 = 18446744073709551616 := by decide
  omega
/-- What is turned without a fault is turned back. -/
theorem turn_back (op k b : Int) (s : ByteArray) (h0 : 0 ≤ b) (h1 : b < 18446744073709551616) (hk : 0 ≤ k ∧ k < 256) :
    (∃ f, turnR op k b s = .tuple #[V 0 0 E0, .int .i64 f] ∧ ¬ f = 0) ∨
    (∃ b', turnR op k b s = .tuple #[V k b' E0, .int .i64 0] ∧ 0 ≤ b' ∧ b' < 18446744073709551616 ∧ turnR op k b' E0 = .tuple #[V k b s, .int .i64 0]) := by
  cases c : may3 k b s
  · exact .inl ⟨8, by simp [turnR, c], by omega⟩
  by_cases d : op = 15 ∧ (2 ≤ k ∧ k ≤ 5 ∨ k = 14)
  · obtain ⟨rfl, d⟩ := d
    have k19 : ¬ k = 19 := by omega
    obtain rfl := text_nil c k19
    cases f : fitOk k (-num k b)
    · exact .inl ⟨1, by simp [turnR, c, d, f], by omega⟩
    · refine .inr ⟨(-num k b) % 18446744073709551616, by simp [turnR, c, d, f], by omega, by omega, ?_⟩
      have f' := f
      simp only [fitOk, Bool.and_eq_true, decide_eq_true_eq] at f'
      have g : fitOk k (num k b) = true := by simp only [fitOk, num_mod h0 h1, c]; simp
      simp only [turnR, f'.1, d, f'.2, Int.neg_neg, num_mod h0 h1, g]; simp
  by_cases e : op = 15 ∧ k = 18
  · obtain ⟨rfl, rfl⟩ := e
    obtain rfl := text_nil c (by omega)
    right
    by_cases n : b = 9221120237041090561
    · subst n
      have hn : fnan (flipN 9221120237041090561) = true := by rw [fnan_flip _ (by omega) (by omega)]; decide
      exact ⟨9221120237041090561, by simp [turnR, c, lrealB_t hn], by omega, by omega, by simp [turnR, c, lrealB_t hn]⟩
    · have hm := (may_w c (by omega)).1
      rw [mw18] at hm
      have hf : fnan b.toNat = false := by simpa [n] using hm
      have hn : fnan (flipN b) = false := by rw [fnan_flip b h0 h1]; exact hf
      have lt := flip_lt b h0 h1
      have hn2 : fnan (flipN (flipN b : Int)) = false := by rw [fnan_flip _ (by omega) lt]; simpa using hn
      have m2 : may3 18 (flipN b : Int) E0 = true := by
        rw [may3_E 18 _ (by omega), mw18]; simp [hn]
      refine ⟨(flipN b : Int), by simp [turnR, c, lrealB_f hn], by omega, lt, ?_⟩
      simp [turnR, m2, lrealB_f hn2, flip_flip b h0 h1]
  by_cases g : op = 16 ∧ (k = 1 ∨ 10 ≤ k ∧ k ≤ 13)
  · obtain ⟨rfl, g⟩ := g
    obtain rfl := text_nil c (by omega)
    right
    have m := (may_w c (by omega)).1
    have nn : notB k (notB k b) = b := by unfold notB; omega
    have key : 0 ≤ notB k b ∧ notB k b < 18446744073709551616 ∧ mayW k (notB k b) = true := by
      have : k = 1 ∨ k = 10 ∨ k = 11 ∨ k = 12 ∨ k = 13 := by omega
      rcases this with rfl | rfl | rfl | rfl | rfl
      · rw [mw1] at m ⊢; simp at m; refine ⟨?_, ?_, ?_⟩ <;> simp [notB] <;> omega
      · rw [mw10] at m ⊢; simp at m; refine ⟨?_, ?_, ?_⟩ <;> simp [notB] <;> omega
      · rw [mw11] at m ⊢; simp at m; refine ⟨?_, ?_, ?_⟩ <;> simp [notB] <;> omega
      · rw [mw12] at m ⊢; simp at m; refine ⟨?_, ?_, ?_⟩ <;> simp [notB] <;> omega
      · refine ⟨?_, ?_, ?_⟩
        · simp [notB]; omega
        · simp [notB]; omega
        · simp [mayW]
    have m2 : may3 k (notB k b) E0 = true := by rw [may3_E k _ (by omega)]; exact key.2.2
    refine ⟨notB k b, by simp [turnR, c, g], key.1, key.2.1, by simp [turnR, m2, g, nn]⟩
  · refine .inl ⟨8, ?_, by omega⟩
    unfold turnR
    rw [if_neg (by simp [c]), if_neg d, if_neg e, if_neg g]
/-- What holds at each round's head: the value lies in its box, the two operations in the list. -/
structure Head (k b : Int) (s : ByteArray) (w wr : World) : Prop where
  below : Below w.heap.size w wr
  size : w.heap.size + 1 < wr.heap.size
  c0 : wr.cell? ⟨w.heap.size, 0, none⟩ = some (.int .u8 k)
  c1 : wr.cell? ⟨w.heap.size, 1, none⟩ = some (.int .u64 b)
  c2 : wr.cell? ⟨w.heap.size, 2, none⟩ = some (.string s)
  d0 : wr.cell? ⟨w.heap.size + 1, 0, none⟩ = some (.int .i64 15)
  d1 : wr.cell? ⟨w.heap.size + 1, 1, none⟩ = some (.int .i64 16)
theorem Head.next {k b : Int} {s : ByteArray} {w wr w1 : World} (h : Head k b s w wr) (hb : Below wr.heap.size wr w1) : Head k b s w w1 := by
  have hs := hb.size
  have z := h.size
  refine ⟨h.below.trans (hb.mono (by omega)), by omega, ?_, ?_, ?_, ?_, ?_⟩
  · rw [hb.cell (p := ⟨w.heap.size, 0, none⟩) (by simp; omega)]; exact h.c0
  · rw [hb.cell (p := ⟨w.heap.size, 1, none⟩) (by simp; omega)]; exact h.c1
  · rw [hb.cell (p := ⟨w.heap.size, 2, none⟩) (by simp; omega)]; exact h.c2
  · rw [hb.cell (p := ⟨w.heap.size + 1, 0, none⟩) (by simp; omega)]; exact h.d0
  · rw [hb.cell (p := ⟨w.heap.size + 1, 1, none⟩) (by simp; omega)]; exact h.d1
theorem Head.alloc {k b : Int} {s : ByteArray} {w wr : World} (h : Head k b s w wr) (o : Obj) : Head k b s w (wr.alloc o) := h.next ((Below.refl _ _).alloc (Nat.le_refl _) _)
theorem lt_next {wr w1 : World} {h : Nat} (hb : Below wr.heap.size wr w1) (z : h < wr.heap.size) : h < w1.heap.size ∧ h < w1.heap.size + 1 := by have := hb.size; omega
theorem lt_next2 {wr w1 : World} {o : Obj} {h : Nat} (hb : Below (wr.alloc o).heap.size (wr.alloc o) w1) (z : h < wr.heap.size) : h < w1.heap.size ∧ h < w1.heap.size + 1 := by have := hb.size; simp at this; omega
theorem lt_last {wr w1 : World} {o : Obj} (hb : Below (wr.alloc o).heap.size (wr.alloc o) w1) : wr.heap.size < w1.heap.size ∧ wr.heap.size < w1.heap.size + 1 := by have := hb.size; simp at this; omega
set_option maxHeartbeats 1000000 in
theorem walk (k b : Int) (s : ByteArray) (w : World) (h0 : 0 ≤ b) (h1 : b < 18446744073709551616) (hk : 0 ≤ k ∧ k < 256) (hs : s.size ≤ maxLen) :
    Calls Try.prog 4 #[V k b s] w fun e w' => e = .returned (.bool true) ∧ Below w.heap.size w w' := by
  go_enter Try.func4, Try.ntmps4
  go_wp2
  go_loopw [12] (fun i wr => ∃ n : Nat, n ≤ 2 ∧ i = .int .i64 n ∧ Head k b s w wr) (fun i _ => 2 - (intOf i).toNat)
  case atStart => exact ⟨0, by omega, rfl, ⟨((Below.refl _ _).alloc (Nat.le_refl _) _).alloc (by simp) _, by simp, by simp, by simp, by simp, by simp, by simp⟩⟩
  case round =>
    obtain ⟨n, hn, rfl, hd⟩ := hrel
    have hn2 : n = 0 ∨ n = 1 ∨ n = 2 := by omega
    rcases hn2 with rfl | rfl | rfl
    · have HD : Hid (Head k b s w wr) := hd
      have z := hd.size
      have z' : w.heap.size < wr.heap.size := by omega
      have c0 := hd.c0
      have c1 := hd.c1
      have c2 := hd.c2
      have d0 := hd.d0
      clear hd
      rcases turn_back 15 k b s h0 h1 hk with ⟨f, e, hf⟩ | ⟨b', e, g0, g1, e2⟩
      · have t1 := Turn_of 15 k b s
        have t2 := TurnR_of 15 k b s
        rw [e] at t1 t2
        have T1 : Hid _ := t1
        have T2 : Hid _ := t2
        have fz : (f != 0) = true := by simpa using hf
        clear t1 t2 e hf
        go_wp2_with (first | (go_at_call 7; refine (T1.out _ h0 h1 hk hs).mono ?_; rintro e w1 ⟨rfl, hb⟩; obtain ⟨hc, hf⟩ := bcell hb; obtain ⟨y0, y1⟩ := lt_next hb z') | (go_at_call 8; refine (T2.out _ h0 h1 hk hs).mono ?_; rintro e w2 ⟨rfl, hb2⟩; obtain ⟨hc2, hf2⟩ := bcell hb2; obtain ⟨x0, x1⟩ := lt_next2 hb2 y0))
        go_roundw
        case rel => exact ⟨1, by omega, by go_num, (((HD.out.next hb).alloc _).next hb2).alloc _⟩
        case measure => simp [intOf]
      · have t1 := Turn_of 15 k b s
        have t2 := TurnR_of 15 k b s
        have t3 := Turn_of 15 k b' E0
        rw [e] at t1 t2
        rw [e2] at t3
        have T1 : Hid _ := t1
        have T2 : Hid _ := t2
        have T3 : Hid _ := t3
        clear t1 t2 t3 e e2
        go_wp2_with (first | (go_at_call_of 7 (s); refine (T1.out _ h0 h1 hk hs).mono ?_; rintro e w1 ⟨rfl, hb⟩; obtain ⟨hc, hf⟩ := bcell hb; obtain ⟨y0, y1⟩ := lt_next hb z') | (go_at_call 8; refine (T2.out _ h0 h1 hk hs).mono ?_; rintro e w2 ⟨rfl, hb2⟩; obtain ⟨hc2, hf2⟩ := bcell hb2; obtain ⟨x0, x1⟩ := lt_next2 hb2 y0; obtain ⟨x2, x3⟩ := lt_last hb2) | (go_at_call 7; refine (T3.out _ g0 g1 hk hE0).mono ?_; rintro e w3 ⟨rfl, hb3⟩; obtain ⟨hc3, hf3⟩ := bcell hb3; obtain ⟨v0, v1⟩ := lt_next2 hb3 x0; obtain ⟨v2, v3⟩ := lt_next2 hb3 x2))
        go_roundw
        case rel => exact ⟨1, by omega, by go_num, (((((HD.out.next hb).alloc _).next hb2).alloc _).next hb3).alloc _⟩
        case measure => simp [intOf]
    · have HD : Hid (Head k b s w wr) := hd
      have z := hd.size
      have z' : w.heap.size < wr.heap.size := by omega
      have c0 := hd.c0
      have c1 := hd.c1
      have c2 := hd.c2
      have d1 := hd.d1
      clear hd
      rcases turn_back 16 k b s h0 h1 hk with ⟨f, e, hf⟩ | ⟨b', e, g0, g1, e2⟩
      · have t1 := Turn_of 16 k b s
        have t2 := TurnR_of 16 k b s
        rw [e] at t1 t2
        have T1 : Hid _ := t1
        have T2 : Hid _ := t2
        have fz : (f != 0) = true := by simpa using hf
        clear t1 t2 e hf
        go_wp2_with (first | (go_at_call 7; refine (T1.out _ h0 h1 hk hs).mono ?_; rintro e w1 ⟨rfl, hb⟩; obtain ⟨hc, hf⟩ := bcell hb; obtain ⟨y0, y1⟩ := lt_next hb z') | (go_at_call 8; refine (T2.out _ h0 h1 hk hs).mono ?_; rintro e w2 ⟨rfl, hb2⟩; obtain ⟨hc2, hf2⟩ := bcell hb2; obtain ⟨x0, x1⟩ := lt_next2 hb2 y0))
        go_roundw
        case rel => exact ⟨2, by omega, by go_num, (((HD.out.next hb).alloc _).next hb2).alloc _⟩
        case measure => simp [intOf]
      · have t1 := Turn_of 16 k b s
        have t2 := TurnR_of 16 k b s
        have t3 := Turn_of 16 k b' E0
        rw [e] at t1 t2
        rw [e2] at t3
        have T1 : Hid _ := t1
        have T2 : Hid _ := t2
        have T3 : Hid _ := t3
        clear t1 t2 t3 e e2
        go_wp2_with (first | (go_at_call_of 7 (s); refine (T1.out _ h0 h1 hk hs).mono ?_; rintro e w1 ⟨rfl, hb⟩; obtain ⟨hc, hf⟩ := bcell hb; obtain ⟨y0, y1⟩ := lt_next hb z') | (go_at_call 8; refine (T2.out _ h0 h1 hk hs).mono ?_; rintro e w2 ⟨rfl, hb2⟩; obtain ⟨hc2, hf2⟩ := bcell hb2; obtain ⟨x0, x1⟩ := lt_next2 hb2 y0; obtain ⟨x2, x3⟩ := lt_last hb2) | (go_at_call 7; refine (T3.out _ g0 g1 hk hE0).mono ?_; rintro e w3 ⟨rfl, hb3⟩; obtain ⟨hc3, hf3⟩ := bcell hb3; obtain ⟨v0, v1⟩ := lt_next2 hb3 x0; obtain ⟨v2, v3⟩ := lt_next2 hb3 x2))
        go_roundw
        case rel => exact ⟨2, by omega, by go_num, (((((HD.out.next hb).alloc _).next hb2).alloc _).next hb3).alloc _⟩
        case measure => simp [intOf]
    · go_wp2
      go_ret
      exact ⟨rfl, hd.below⟩
set_option maxRecDepth 100000 in
theorem lifted (os : Os) (started : os.Started) (H : Type) (enc : TypeId × Value → H) :
    ReturnsInHanded {} Try.checked os 4 .any (Rows.valueSignsSpec.pre6 enc Try.prog Try.f4 Rows.valueSignsRow.domain false) (Rows.valueSignsSpec.post enc Try.prog Try.f4 false true false false) := by
  refine returnsInHanded_of_change (C := Try.checked) own started (by kernel_rfl) Try.func4
    (ChangeSpec.witness6 (enc := enc) (C := Try.checked) false ⟨#[], #[V 0 0 ⟨#[]⟩], []⟩ 8 (by kernel_rfl) (by kernel_rfl) (by kernel_rfl) (by kernel_rfl)) ?_
  intro W base args ds gs before hval0 hW hcnd _
  have hval : ∀ (j : Nat) t v, Try.f4.params[j]? = some t → args[j]? = some v → Value.okWide Try.prog W .any base t v := hval0
  have hW' := hW
  obtain ⟨p, q, hA0, hV, rfl, hfz, hnd⟩ := hW
  have hA : DataW.TrodAll enc Try.prog W 0 (fun _ => true) true Try.f4.params.toList args.toList ds p := hA0
  rw [Try.params4] at hA hval
  obtain ⟨v0, vs0, d0, ds0, p0, q0, hargs, rfl, rfl, h0, r0⟩ := trodAll_cons hA
  obtain ⟨rfl, rfl, rfl⟩ := trodAll_nil r0
  obtain rfl : args = #[v0] := by cases args; simp_all
  obtain ⟨rfl, rfl⟩ := trodVars_none hV
  have k0 := h0
  have lt0 : ∀ x ∈ p0, x.block < W.heap.size := by obtain ⟨m, hm⟩ := k0; exact DataW.trod_lt m _ _ _ hm
  obtain ⟨k, b, s, rfl, hk, b0, b1, hs⟩ := open_V (hval 0 25 v0 rfl rfl) h0
  clear hA0 hval0
  refine (walk k b s W b0 b1 hk hs).mono fun e W' ⟨he, bel⟩ => ?_
  subst he
  exact ⟨_, rfl, _, _, _, [], _, [], hW', trodAll_mk1 (shut_bool Try.underlying4 _), (trodAll_cons_mk (Below.trod laidOut (by kernel_rfl) (of_decide_eq_true (by kernel_rfl)) k0 bel lt0) trodAll_mk0), rfl, bel.frame _, fun h => by cases h⟩
end Go.Proofs.Ytdnpeghdfhjmaab.LawSigns
namespace Go.Proofs.Ytdnpeghdfhjmaab
/-- THE STATEMENT. -/
theorem valueSigns_proved : Rows.ValueSignsSaid :=
  OpenClaim.holds_of_wide 4 Try.f4 rfl rfl rfl rfl rfl rfl rfl ⟨rfl, rfl, rfl, rfl, rfl⟩ rfl rfl rfl rfl rfl (by kernel_rfl) Try.func4 (by kernel_rfl)
    (of_decide_eq_true (by kernel_rfl)) (by unfold Func.isWrapper; first | (rw [if_pos (by decide +kernel)]; kernel_rfl) | (rw [if_neg (by decide +kernel)]; exact ⟨rfl, rfl⟩))
    (fun os started H enc _ => LawSigns.lifted os started H enc)
end Go.Proofs.Ytdnpeghdfhjmaab
