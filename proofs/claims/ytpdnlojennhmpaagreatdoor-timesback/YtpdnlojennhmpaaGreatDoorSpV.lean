/- What times.printSpan answers; no statement of the seat is proved here. -/
import Derived.Test.YtpdnlojennhmpaaGreatDoorUnA
import Derived.Test.YtpdnlojennhmpaaGreatDoorSubG
namespace Go.Proofs.YtpdnlojennhmpaaGreatDoor
set_option linter.unusedVariables false
open Go.RowKit
theorem u64_neg (n : Int) (N : Nat) (h : n < 0) (hn : -9223372036854775808 ≤ n) (hN : n.natAbs = N) : IntKind.u64.wrap (-IntKind.u64.wrap n) = (N : Int) := by
  rw [IntKind.wrap_u64, IntKind.wrap_u64]; omega
theorem u64_pos (n : Int) (N : Nat) (h : ¬ n < 0) (hn : n < 9223372036854775808) (hN : n.natAbs = N) : IntKind.u64.wrap n = (N : Int) := by
  rw [IntKind.wrap_u64]; omega
theorem wrapN (x : Nat) (h : x < 18446744073709551616) : IntKind.u64.wrap (x : Int) = (x : Int) := by
  rw [IntKind.wrap_u64]; omega
theorem ba_nil (a : ByteArray) : a ++ ⟨#[]⟩ = a := by
  apply ByteArray.ext
  rw [ByteArray.data_append]
  simp
set_option maxRecDepth 100000 in
set_option maxHeartbeats 2000000 in
theorem printSpan_of (n : Int) (h0 : -9223372036854775808 ≤ n) (h1 : n < 9223372036854775808) (z : ¬ n = 0) (w : World) (hP : Pow w) (hU : PU w) :
    Calls Tryz.prog 10 #[.int .i64 n] w fun e w' => e = .returned (.string ((if n < 0 then ⟨#[45]⟩ else ⟨#[]⟩) ++ spT n.natAbs 7)) ∧ Below w.heap.size w w' := by
  have z' : (n == 0) = false := by simpa using z
  have HP : Hid (∀ w', Below w.heap.size w w' → Pow w' ∧ PU w') := fun w' hb => ⟨pow_below hP hb, hU.next hb⟩
  have F : Hid (∀ (u : Nat) w, u < 18446744073709551616 → Pow w → Calls Tryz.prog 22 #[.int .u64 u, .int .i64 10] w fun e w' => e = .returned (.string (decS u)) ∧ Below w.heap.size w w') := fun u w h hp => FormatUint_of u h w hp
  clear hP hU
  generalize hN : n.natAbs = N
  have N64 : N < 18446744073709551616 := by omega
  by_cases n0 : n < 0
  · have e1 := u64_neg n N n0 h0 hN
    rw [if_pos n0]
    clear z hN
    go_enter Tryz.func10, Tryz.ntmps10
    go_wp2
    go_loopw [3, 4, 15] (fun vt vl vi wr => ∃ i : Nat, i ≤ 7 ∧ vi = .int .i64 (i : Int) ∧ vl = .int .u64 (spL N i : Int) ∧ vt = .string ((⟨#[45]⟩ : ByteArray) ++ spT N i) ∧ Below w.heap.size w wr) (fun _ _ vi _ => (7 - intOf vi).toNat)
    case atStart => exact ⟨0, by omega, rfl, rfl, congrArg Value.string (ba_nil _).symm, Below.refl _ _⟩
    case round =>
      obtain ⟨i, hi, rfl, rfl, rfl, B0⟩ := hrel
      have B : Hid _ := B0
      clear B0
      by_cases c7 : i < 7
      · have c7' : (i : Int) < 7 := by omega
        obtain ⟨cN, cL⟩ := (HP.out _ B.out).2 i c7
        have gp : 0 < wr.heap.size := (HP.out _ B.out).2.pos
        have pb := pL_bd i
        have pn := pN_bd i
        have lb : spL N i < 18446744073709551616 := by have := spL_le N i; omega
        have ts := spT_size N N64 i
        have e1 : Hid (spL N (i + 1) = spL N i % pL i) := rfl
        have e2 : Hid (spT N (i + 1) = if 0 < spL N i / pL i then spT N i ++ (decS (spL N i / pL i) ++ pN i) else spT N i) := rfl
        generalize spL N i = l at *
        generalize pL i = q at *
        generalize spT N i = t at *
        generalize pN i = nm at *
        have cb : l / q < 18446744073709551616 := by have := Nat.div_le_self l q; omega
        have wq : IntKind.u64.wrap ((l : Int) / (q : Int)) = ((l / q : Nat) : Int) := by
          rw [← Int.natCast_ediv]; exact wrapN _ cb
        have FC : Hid _ := fun w hp => F.out (l / q) w cb hp
        have ds := decS_size (l / q) cb
        generalize l / q = cnt at *
        generalize decS cnt = dt at *
        have sz : ((⟨#[45]⟩ : ByteArray) ++ t).size ≤ 22 * i + 1 := by rw [ByteArray.size_append]; show 1 + _ ≤ _; omega
        have asc : Hid (((⟨#[45]⟩ : ByteArray) ++ t) ++ (dt ++ nm) = (⟨#[45]⟩ : ByteArray) ++ (t ++ (dt ++ nm))) := ByteArray.append_assoc
        generalize hx : (⟨#[45]⟩ : ByteArray) ++ t = x at *
        by_cases c0 : 0 < cnt
        · have c0' : (0 : Int) < cnt := by omega
          rw [if_pos c0] at e2
          go_wp2_with fail
          have P2 : Hid (∀ x : Sub wr, Pow x.w) := fun x => (HP.out _ (B.out.trans (x.h.mono B.out.size))).1
          refine wp_region_sub2 (by kernel_rfl) (by kernel_rfl) ?_
          intro cx
          repeat (first | go_big_quiet_skip | (go_big_quiet_want; go_big_quiet_op; first | go_big_quiet_on | (refine ⟨_, fun _ => rfl, ?_⟩; go_big_quiet_on) | go_big_quiet_call (first
            | (go_at_call 22; exact calls_sub (FC.out _ (P2.out _))))))
          refine wpQuiet_nil ?_
          rintro _ ⟨y, rfl⟩
          have B5 : Hid (Below w.heap.size w y.w) := B.out.trans (y.h.mono B.out.size)
          clear cx
          go_wp2
          refine ⟨⟨i + 1, by omega, by push_cast; rfl, by rw [e1.out]; push_cast; rfl, by rw [e2.out, asc.out], B5.out⟩, ?_⟩
          simp [intOf]
          omega
        · have c0' : ¬ (0 : Int) < cnt := by omega
          rw [if_neg c0] at e2
          go_wp2
          refine ⟨⟨i + 1, by omega, by push_cast; rfl, by rw [e1.out]; push_cast; rfl, by rw [e2.out, hx], B.out⟩, ?_⟩
          simp [intOf]
          omega
      · have : i = 7 := by omega
        subst this
        generalize hx : (⟨#[45]⟩ : ByteArray) ++ spT N 7 = x at *
        go_wp2
        go_ret
        exact ⟨congrArg (fun y => Ending.returned (Value.string y)) hx.symm, B.out⟩
  · have e1 := u64_pos n N n0 h1 hN
    rw [if_neg n0]
    clear z hN
    go_enter Tryz.func10, Tryz.ntmps10
    go_wp2
    go_loopw [3, 4, 15] (fun vt vl vi wr => ∃ i : Nat, i ≤ 7 ∧ vi = .int .i64 (i : Int) ∧ vl = .int .u64 (spL N i : Int) ∧ vt = .string ((⟨#[]⟩ : ByteArray) ++ spT N i) ∧ Below w.heap.size w wr) (fun _ _ vi _ => (7 - intOf vi).toNat)
    case atStart => exact ⟨0, by omega, rfl, rfl, congrArg Value.string (ba_nil _).symm, Below.refl _ _⟩
    case round =>
      obtain ⟨i, hi, rfl, rfl, rfl, B0⟩ := hrel
      have B : Hid _ := B0
      clear B0
      by_cases c7 : i < 7
      · have c7' : (i : Int) < 7 := by omega
        obtain ⟨cN, cL⟩ := (HP.out _ B.out).2 i c7
        have gp : 0 < wr.heap.size := (HP.out _ B.out).2.pos
        have pb := pL_bd i
        have pn := pN_bd i
        have lb : spL N i < 18446744073709551616 := by have := spL_le N i; omega
        have ts := spT_size N N64 i
        have e1 : Hid (spL N (i + 1) = spL N i % pL i) := rfl
        have e2 : Hid (spT N (i + 1) = if 0 < spL N i / pL i then spT N i ++ (decS (spL N i / pL i) ++ pN i) else spT N i) := rfl
        generalize spL N i = l at *
        generalize pL i = q at *
        generalize spT N i = t at *
        generalize pN i = nm at *
        have cb : l / q < 18446744073709551616 := by have := Nat.div_le_self l q; omega
        have wq : IntKind.u64.wrap ((l : Int) / (q : Int)) = ((l / q : Nat) : Int) := by
          rw [← Int.natCast_ediv]; exact wrapN _ cb
        have FC : Hid _ := fun w hp => F.out (l / q) w cb hp
        have ds := decS_size (l / q) cb
        generalize l / q = cnt at *
        generalize decS cnt = dt at *
        have sz : ((⟨#[]⟩ : ByteArray) ++ t).size ≤ 22 * i + 1 := by rw [ByteArray.size_append]; show 0 + _ ≤ _; omega
        have asc : Hid (((⟨#[]⟩ : ByteArray) ++ t) ++ (dt ++ nm) = (⟨#[]⟩ : ByteArray) ++ (t ++ (dt ++ nm))) := ByteArray.append_assoc
        generalize hx : (⟨#[]⟩ : ByteArray) ++ t = x at *
        by_cases c0 : 0 < cnt
        · have c0' : (0 : Int) < cnt := by omega
          rw [if_pos c0] at e2
          go_wp2_with fail
          have P2 : Hid (∀ x : Sub wr, Pow x.w) := fun x => (HP.out _ (B.out.trans (x.h.mono B.out.size))).1
          refine wp_region_sub2 (by kernel_rfl) (by kernel_rfl) ?_
          intro cx
          repeat (first | go_big_quiet_skip | (go_big_quiet_want; go_big_quiet_op; first | go_big_quiet_on | (refine ⟨_, fun _ => rfl, ?_⟩; go_big_quiet_on) | go_big_quiet_call (first
            | (go_at_call 22; exact calls_sub (FC.out _ (P2.out _))))))
          refine wpQuiet_nil ?_
          rintro _ ⟨y, rfl⟩
          have B5 : Hid (Below w.heap.size w y.w) := B.out.trans (y.h.mono B.out.size)
          clear cx
          go_wp2
          refine ⟨⟨i + 1, by omega, by push_cast; rfl, by rw [e1.out]; push_cast; rfl, by rw [e2.out, asc.out], B5.out⟩, ?_⟩
          simp [intOf]
          omega
        · have c0' : ¬ (0 : Int) < cnt := by omega
          rw [if_neg c0] at e2
          go_wp2
          refine ⟨⟨i + 1, by omega, by push_cast; rfl, by rw [e1.out]; push_cast; rfl, by rw [e2.out, hx], B.out⟩, ?_⟩
          simp [intOf]
          omega
      · have : i = 7 := by omega
        subst this
        generalize hx : (⟨#[]⟩ : ByteArray) ++ spT N 7 = x at *
        go_wp2
        go_ret
        exact ⟨congrArg (fun y => Ending.returned (Value.string y)) hx.symm, B.out⟩
set_option maxRecDepth 100000 in
theorem printSpan_0 (w : World) : Calls Tryz.prog 10 #[.int .i64 0] w fun e w' => e = .returned (.string ⟨#[48, 83]⟩) ∧ Below w.heap.size w w' := by
  go_enter Tryz.func10, Tryz.ntmps10
  go_wp2
  go_ret
  exact ⟨rfl, Below.refl _ _⟩
end Go.Proofs.YtpdnlojennhmpaaGreatDoor
