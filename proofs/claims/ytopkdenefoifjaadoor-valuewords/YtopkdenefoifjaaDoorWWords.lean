/- What the statement's function of ValueWords answers; no statement of the seat is proved here. -/
import Derived.Test.YtopkdenefoifjaaDoorLaidW
import Derived.Test.YtopkdenefoifjaaDoorSubG
namespace Go.Proofs.YtopkdenefoifjaaDoor
set_option linter.unusedVariables false
open Go.RowKit
theorem kdR_form (s : ByteArray) : ∃ (a : Int) (p : Bool), kdR s = .tuple #[.int .u8 a, .bool p] := by
  unfold kdR
  split
  · exact ⟨_, _, rfl⟩
  · exact ⟨_, _, rfl⟩
section
variable (k : Int) (s : ByteArray) (kv b : Int) (t : ByteArray) (w : World)
set_option maxRecDepth 100000 in
set_option maxHeartbeats 2000000 in
theorem Words_law (hk : 0 ≤ k ∧ k < 256) (hkv : 0 ≤ kv ∧ kv < 256) (h0 : 0 ≤ b) (h1 : b < 18446744073709551616) (ht : t.size ≤ maxLen) (hP : Pow w) (hz : Tz4 w) (hw : KW w) :
    Calls Tryd.prog 3 #[.int .u8 k, .string s, V kv b t] w fun e w' => e = .returned (.bool true) ∧ Below w.heap.size w w' := by
  obtain ⟨a, p, ek⟩ := kdR_form s
  have K1 : Hid (∀ w, KW w → Calls Tryd.prog 4 #[.string s] w fun e w' => e = .returned (.tuple #[.int .u8 a, .bool p]) ∧ w' = w) := fun w h => by
    have := Kind_of s w h
    rwa [ek] at this
  have K2 : Hid (∀ w, Calls Tryd.prog 5 #[.string s] w fun e w' => e = .returned (.tuple #[.int .u8 a, .bool p]) ∧ Below w.heap.size w w') := fun w => by
    have := KindR_of s w
    rwa [ek] at this
  have W1 : Hid (∀ w, KW w → Calls Tryd.prog 6 #[.int .u8 k] w fun e w' => e = .returned (.string (wdS k)) ∧ w' = w) := fun w h => Word_of k w h hk
  have W2 : Hid (∀ w, Calls Tryd.prog 7 #[.int .u8 k] w fun e w' => e = .returned (.string (wdS k)) ∧ Below w.heap.size w w') := fun w => WordR_of k w hk
  have P1 : Hid (∀ w, Pow w → Tz4 w → Calls Tryd.prog 8 #[V kv b t] w fun e w' => e = .returned (.string (prS kv b t)) ∧ Below w.heap.size w w') := fun w hP hz => PrintV_of kv b t w hP hz h0 h1 hkv ht
  have P2 : Hid (∀ w, Pow w → Calls Tryd.prog 9 #[V kv b t] w fun e w' => e = .returned (.string (prS kv b t)) ∧ Below w.heap.size w w') := fun w hP => PrintD_of kv b t w hP h0 h1 hkv ht
  have HT : Hid (∀ w', Below w.heap.size w w' → Pow w' ∧ Tz4 w' ∧ KW w') := fun w' hb => ⟨pow_below hP hb, tz4_below hz hb, hw.next hb⟩
  clear hP hz hw ek
  generalize wdS k = q1 at *
  generalize prS kv b t = q2 at *
  go_enter Tryd.func3, Tryd.ntmps3
  go_wp2_with fail
  have B0 : Hid (Below w.heap.size w (w.alloc (.cells #[.int .u8 kv, .int .u64 b, .string t] 25))) := (Below.refl _ _).alloc (Nat.le_refl _) _
  have L0 : Hid _ := Lies.new w kv b t 25
  generalize w.alloc (.cells #[.int .u8 kv, .int .u64 b, .string t] 25) = wa at *
  refine (K1.out _ (HT.out _ B0.out).2.2).mono ?_
  rintro e w1 ⟨rfl, rfl⟩
  go_wp2_with fail
  refine (K2.out _).mono ?_
  rintro e w2 ⟨rfl, hb⟩
  have B2 : Hid (Below w.heap.size w w2) := B0.out.trans (hb.mono B0.out.size)
  have L2 : Hid _ := L0.out.next hb
  obtain ⟨l0, c00, c01, c02⟩ := L2.out
  clear hb
  go_wp2_with fail
  have E1 : (q1.toList == q1.toList) = true := by simp
  have E2 : (q2.toList == q2.toList) = true := by simp
  have T2 : Hid (∀ x : Sub w2, Pow x.w ∧ Tz4 x.w ∧ KW x.w) := fun x => HT.out _ (B2.out.trans (x.h.mono B2.out.size))
  refine wp_region_sub2 (by kernel_rfl) (by kernel_rfl) ?_
  intro cx
  repeat (first | go_big_quiet_skip | (go_big_quiet_want; go_big_quiet_op; first | go_big_quiet_on | (refine ⟨_, fun _ => rfl, ?_⟩; go_big_quiet_on) | go_big_quiet_call (first
    | (go_at_call 6; exact calls_sub_same (W1.out _ (T2.out _).2.2))
    | (go_at_call 7; exact calls_sub (W2.out _))
    | (go_at_call 8; exact calls_sub (P1.out _ (T2.out _).1 (T2.out _).2.1))
    | (go_at_call 9; exact calls_sub (P2.out _ (T2.out _).1)))))
  refine wpQuiet_nil ?_
  rintro _ ⟨y, rfl⟩
  have B5 : Hid (Below w.heap.size w y.w) := B2.out.trans (y.h.mono B2.out.size)
  clear cx
  go_wp2
  go_ret
  exact ⟨rfl, B5.out⟩
end
end Go.Proofs.YtopkdenefoifjaaDoor
