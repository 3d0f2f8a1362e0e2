/- ROL and ROR by their names; no statement of the seat is proved here. -/
import Derived.Test.YtkanhbokdjppoaaGreatDoorStdF
import Derived.Test.YtkanhbokdjppoaaGreatDoorStdG
import Derived.Test.YtkanhbokdjppoaaGreatDoorStdC
namespace Go.Proofs.YtkanhbokdjppoaaGreatDoor
set_option linter.unusedVariables false
open Go.RowKit
theorem enter_shifted (args : Array Value) (w : World) : (callFunc 69 args).run Tryz.prog w = .ok (.enter 69 args) w := by kernel_rfl
theorem enter_turnLeft (args : Array Value) (w : World) : (callFunc 72 args).run Tryz.prog w = .ok (.enter 72 args) w := by kernel_rfl
theorem enter_turnRight (args : Array Value) (w : World) : (callFunc 73 args).run Tryz.prog w = .ok (.enter 73 args) w := by kernel_rfl
abbrev nROL : ByteArray := ⟨#[82, 79, 76]⟩
abbrev nROR : ByteArray := ⟨#[82, 79, 82]⟩
/-- No function ahead of a number has such a name. -/
theorem ahead_of {K : Nat} {nm : ByteArray} (h : ((List.range K).all fun k => k == 0 || !((fuT k).nm.data.toList == nm.data.toList)) = true) (k : Nat) (h1 : 1 ≤ k) (h2 : k < K) : ((fuT k).nm.toList == nm.toList) = false := by
  have := List.all_eq_true.1 h k (List.mem_range.2 h2)
  rw [ByteArray.toList_eq, ByteArray.toList_eq]
  have e : (k == 0) = false := by simp; omega
  rw [e] at this
  simpa using this
theorem named_ROL (w : World) : Calls Tryz.prog 22 #[.string nROL] w fun e w' => e = .returned (.tuple #[.int .i64 25, .int .u8 0]) ∧ Below w.heap.size w w' :=
  named_K 25 (by decide) (by decide) nROL rfl (ahead_of (by decide)) w
theorem named_ROR (w : World) : Calls Tryz.prog 22 #[.string nROR] w fun e w' => e = .returned (.tuple #[.int .i64 26, .int .u8 0]) ∧ Below w.heap.size w w' :=
  named_K 26 (by decide) (by decide) nROR rfl (ahead_of (by decide)) w
abbrev fmS : ByteArray := ⟨#[73, 78, 32, 78]⟩
theorem numbered_ROL (w : World) : Calls Tryz.prog 23 #[.int .i64 25] w fun e w' => e = .returned (FV ⟨nROL, fmS, 0, 0, some 69, some 72⟩) ∧ Below w.heap.size w w' := numbered_K 25 (by decide) (by decide) w
theorem numbered_ROR (w : World) : Calls Tryz.prog 23 #[.int .i64 26] w fun e w' => e = .returned (FV ⟨nROR, fmS, 0, 0, some 69, some 73⟩) ∧ Below w.heap.size w w' := numbered_K 26 (by decide) (by decide) w
/-- What a shift gives for kinds. -/
theorem shift_out (nm : ByteArray) (gv : Option Nat) (a : Addr) (cap : Nat) (κ : Nat → Int) (w : World) (ht : Asc w) (hk : KsAt w a 2 κ) :
    Calls Tryz.prog 24 #[FV ⟨nm, fmS, 0, 0, some 69, gv⟩, .slice (some a) 2 cap] w fun e w' => e = .returned (.int .u8 (gvK (κ 0) (rowK (κ 0) && intK (κ 1)))) ∧ Below w.heap.size w w' :=
  outcome_yes nm fmS 0 0 gv 69 _ (some a) 2 cap 2 _ w fldS6 ht rfl (fun W hb => shifted_of 0 a cap κ W (hk.below hb)) enter_shifted
/-- Two values as the arguments of a call. -/
theorem A2.vs {w : World} {g : Nat} {v : Nat → Vl} (h : VsAt w ⟨g, 0, none⟩ 2 v) : A2 w g (v 0) (v 1) := by
  obtain ⟨a, b, c⟩ := h 0 (by decide)
  obtain ⟨d, e, f⟩ := h 1 (by decide)
  exact ⟨a, b, c, d, e, f⟩
section
variable (g cap : Nat) (v : Nat → Vl) (w : World)
theorem call_ROL_no (hv : VsAt w ⟨g, 0, none⟩ 2 v) (ht : Asc w) (h : (rowK (v 0).k && intK (v 1).k) = false) :
    Calls Tryz.prog 19 #[.string nROL, .slice (some ⟨g, 0, none⟩) 2 cap] w fun e w' => e = .returned (.tuple #[V 0 0 E0, .bool false]) ∧ Below w.heap.size w w' :=
  call_no nROL ⟨g, 0, none⟩ 2 cap v w hv (by decide) (by decide) (fun W g' c hb hk => Find_no nROL 25 _ _ 2 c W (by decide) (by decide) named_ROL numbered_ROL (fun W' hb' => by
    have := shift_out nROL (some 72) ⟨g', 0, none⟩ c _ W' ((ht.below hb).below hb') (hk.below hb')
    rwa [h] at this))
theorem row_or {k : Int} (h : rowK k = true) : k = 10 ∨ k = 11 ∨ k = 12 ∨ k = 13 := by unfold rowK at h; have := of_decide_eq_true h; omega
theorem int_or {k : Int} (h : intK k = true) : 2 ≤ k ∧ k ≤ 9 := by unfold intK at h; exact of_decide_eq_true h
theorem ROL_out (hr : rowK (v 0).k = true) (hi : intK (v 1).k = true) : gvK (v 0).k (rowK (v 0).k && intK (v 1).k) = (v 0).k := by rw [hr, hi]; rfl
theorem call_ROL_bad (hv : VsAt w ⟨g, 0, none⟩ 2 v) (ho : ∀ i, i < 2 → VlOk (v i)) (ht : Asc w) (hr : rowK (v 0).k = true) (hi : intK (v 1).k = true) (m : Nat) (hm : m < 2) (hb : may3 (v m).k (v m).b (v m).s = false) :
    Calls Tryz.prog 19 #[.string nROL, .slice (some ⟨g, 0, none⟩) 2 cap] w fun e w' => e = .returned (.tuple #[V 0 0 E0, .bool false]) ∧ Below w.heap.size w w' :=
  call_yes nROL ⟨g, 0, none⟩ 2 cap v w hv (by decide) (by decide) 25 (v 0).k 0 0 8 E0
    (fun W g' c hb hk => Find_yes nROL 25 _ _ 2 c _ W (by decide) (by decide) (by rcases row_or hr with h | h | h | h <;> rw [h] <;> rfl) named_ROL numbered_ROL (fun W' hb' => by
      have := shift_out nROL (some 72) ⟨g', 0, none⟩ c _ W' ((ht.below hb).below hb') (hk.below hb')
      rwa [ROL_out v hr hi] at this))
    (fun W hW => Call_bad 25 nROL fmS 0 0 _ _ ⟨g, 0, none⟩ 2 cap v W numbered_ROL (hv.below hW) ho (by decide) m hm hb)
theorem call_ROL_g (hv : VsAt w ⟨g, 0, none⟩ 2 v) (ho : ∀ i, i < 2 → VlOk (v i)) (ht : Asc w) (hr : rowK (v 0).k = true) (hi : intK (v 1).k = true) (hm : ∀ i, i < 2 → may3 (v i).k (v i).b (v i).s = true) (rk rb fa : Int) (rs : ByteArray)
    (hG : ∀ W, Below w.heap.size w W → Calls Tryz.prog 72 #[.int .i64 0, .slice (some ⟨g, 0, none⟩) 2 cap] W fun e w' => e = .returned (.tuple #[V rk rb rs, .int .i64 fa]) ∧ Below W.heap.size W w') :
    Calls Tryz.prog 19 #[.string nROL, .slice (some ⟨g, 0, none⟩) 2 cap] w fun e w' => e = .returned (.tuple #[V rk rb rs, .bool (fa == 0)]) ∧ Below w.heap.size w w' :=
  call_yes nROL ⟨g, 0, none⟩ 2 cap v w hv (by decide) (by decide) 25 (v 0).k rk rb fa rs
    (fun W g' c hb hk => Find_yes nROL 25 _ _ 2 c _ W (by decide) (by decide) (by rcases row_or hr with h | h | h | h <;> rw [h] <;> rfl) named_ROL numbered_ROL (fun W' hb' => by
      have := shift_out nROL (some 72) ⟨g', 0, none⟩ c _ W' ((ht.below hb).below hb') (hk.below hb')
      rwa [ROL_out v hr hi] at this))
    (fun W hW => Call_yes 25 nROL fmS 0 0 _ _ ⟨g, 0, none⟩ 2 cap v W numbered_ROL (hv.below hW) ho (by decide) hm (by decide) (v 0).k rk rb fa rs (by rcases row_or hr with h | h | h | h <;> rw [h] <;> rfl)
      (fun W' g' c hb hk => by
        have := shift_out nROL (some 72) ⟨g', 0, none⟩ c _ W' ((ht.below hW).below hb) hk
        rwa [ROL_out v hr hi] at this)
      (fun W' hb => hG W' (hW.trans (hb.mono hW.size))) enter_turnLeft)
theorem call_ROR_g (hv : VsAt w ⟨g, 0, none⟩ 2 v) (ho : ∀ i, i < 2 → VlOk (v i)) (ht : Asc w) (hr : rowK (v 0).k = true) (hi : intK (v 1).k = true) (hm : ∀ i, i < 2 → may3 (v i).k (v i).b (v i).s = true) (rk rb fa : Int) (rs : ByteArray)
    (hG : ∀ W, Below w.heap.size w W → Calls Tryz.prog 73 #[.int .i64 0, .slice (some ⟨g, 0, none⟩) 2 cap] W fun e w' => e = .returned (.tuple #[V rk rb rs, .int .i64 fa]) ∧ Below W.heap.size W w') :
    Calls Tryz.prog 19 #[.string nROR, .slice (some ⟨g, 0, none⟩) 2 cap] w fun e w' => e = .returned (.tuple #[V rk rb rs, .bool (fa == 0)]) ∧ Below w.heap.size w w' :=
  call_yes nROR ⟨g, 0, none⟩ 2 cap v w hv (by decide) (by decide) 26 (v 0).k rk rb fa rs
    (fun W g' c hb hk => Find_yes nROR 26 _ _ 2 c _ W (by decide) (by decide) (by rcases row_or hr with h | h | h | h <;> rw [h] <;> rfl) named_ROR numbered_ROR (fun W' hb' => by
      have := shift_out nROR (some 73) ⟨g', 0, none⟩ c _ W' ((ht.below hb).below hb') (hk.below hb')
      rwa [ROL_out v hr hi] at this))
    (fun W hW => Call_yes 26 nROR fmS 0 0 _ _ ⟨g, 0, none⟩ 2 cap v W numbered_ROR (hv.below hW) ho (by decide) hm (by decide) (v 0).k rk rb fa rs (by rcases row_or hr with h | h | h | h <;> rw [h] <;> rfl)
      (fun W' g' c hb hk => by
        have := shift_out nROR (some 73) ⟨g', 0, none⟩ c _ W' ((ht.below hW).below hb) hk
        rwa [ROL_out v hr hi] at this)
      (fun W' hb => hG W' (hW.trans (hb.mono hW.size))) enter_turnRight)
end
end Go.Proofs.YtkanhbokdjppoaaGreatDoor
