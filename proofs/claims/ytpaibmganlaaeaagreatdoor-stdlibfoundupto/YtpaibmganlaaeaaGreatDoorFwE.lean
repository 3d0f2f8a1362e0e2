/- What Call answers of values that a function takes, and values copied; no statement of the seat is proved here. -/
import Derived.Test.YtpaibmganlaaeaaGreatDoorFwA
import Derived.Test.YtpaibmganlaaeaaGreatDoorFwC
import Derived.Handy
import Derived.Test.YtpaibmganlaaeaaGreatDoorFwD
import Derived.Test.YtpaibmganlaaeaaGreatDoorSi
import Derived.Laws.FloatBits
import Derived.Test.YtpaibmganlaaeaaGreatDoorFz21
import Derived.Test.YtpaibmganlaaeaaGreatDoorFwB
import Derived.Laws.Bits64b
import Derived.Test.YtpaibmganlaaeaaGreatDoorFz22
import Derived.Test.YtpaibmganlaaeaaGreatDoorFz02
import Derived.Laws.CopyOwn
import Derived.OwnWalk
namespace Go.Proofs.YtpaibmganlaaeaaGreatDoor
set_option linter.unusedVariables false
open Go.RowKit
/-- What stands in an answer. -/
def prsV (x : Value) : Vl × Int := match x with
  | .tuple #[.agg #[.int _ k, .int _ b, .string s], .int _ f] => (⟨k, b, s⟩, f)
  | _ => (⟨0, 0, E0⟩, 8)
theorem prs_tuple (k b f : Int) (s : ByteArray) : prsV (.tuple #[V k b s, .int .i64 f]) = (⟨k, b, s⟩, f) := rfl
/-- Value by value from the left. -/
def acF (op : Int) (v : Nat → Vl) : Nat → Vl × Int
  | 0 => (v 0, 0)
  | j + 1 => prsV (reckR op (acF op v j).1.k (acF op v j).1.b (v (j + 1)).k (v (j + 1)).b (acF op v j).1.s (v (j + 1)).s)
section
variable (g l c : Nat) (op : Int) (v : Nat → Vl) (w : World)
set_option maxHeartbeats 2000000 in
theorem reckon_of (M : Nat) (R : Value) (hv : VsAt w ⟨g, 0, none⟩ (l + 1) v) (ho : ∀ i, i < l + 1 → VlOk (v i)) (hc : l ≤ c) (h1 : 1 ≤ l) (hl : l < 1000000) (hA : ∀ j, j < l → VlOk (acF op v j).1)
    (hF : ∀ j, j < l → reckR op (acF op v j).1.k (acF op v j).1.b (v (j + 1)).k (v (j + 1)).b (acF op v j).1.s (v (j + 1)).s = .tuple #[V (acF op v (j + 1)).1.k (acF op v (j + 1)).1.b (acF op v (j + 1)).1.s, .int .i64 (acF op v (j + 1)).2])
    (hM : M ≤ l) (hz : ∀ j, j ≤ M → (acF op v j).2 = 0) (hR1 : M = l → R = .tuple #[V (acF op v l).1.k (acF op v l).1.b (acF op v l).1.s, .int .i64 0]) (hR2 : M < l → ¬ (acF op v (M + 1)).2 = 0 ∧ R = .tuple #[V 0 0 E0, .int .i64 (acF op v (M + 1)).2]) :
    Calls Tryz.prog 36 #[.int .i64 op, .slice (some ⟨g, 0, none⟩) (l + 1) (c + 1)] w fun e w' => e = .returned R ∧ Below w.heap.size w w' := by
  have HV : Hid (VsAt w ⟨g, 0, none⟩ (l + 1) v) := hv
  have HO : Hid _ := ho
  have HA : Hid _ := hA
  have HF : Hid _ := hF
  have HZ : Hid _ := hz
  have HR1 : Hid _ := hR1
  have HR2 : Hid _ := hR2
  have HM : Hid _ := hM
  have HL : Hid _ := And.intro h1 hl
  have m2 : (l : Int) ≤ c := by omega
  have m1 : (1 : Int) ≤ l := by omega
  obtain ⟨a0, a1, a2⟩ := A1.vs hv (by omega)
  have zg : g < w.heap.size := block_lt_of_cell a0
  clear hv ho hA hF hz hR1 hR2 hM hc h1 hl
  go_enter Tryz.func36, Tryz.ntmps36
  go_wp2_with fail
  have gr : Hid (Below w.heap.size w ((w.alloc (.cells #[.int .u8 0, .int .u64 0, .string ⟨#[]⟩] 27)).alloc (.cells #[.int .u8 (v 0).k, .int .u64 (v 0).b, .string (v 0).s] 27))) := ((Below.refl _ _).alloc (Nat.le_refl _) _).alloc (by simp) _
  have rb : Hid (VB ((w.alloc (.cells #[.int .u8 0, .int .u64 0, .string ⟨#[]⟩] 27)).alloc (.cells #[.int .u8 (v 0).k, .int .u64 (v 0).b, .string (v 0).s] 27)) w.heap.size 0 0 E0) := ⟨by simp, by simp, by simp, by simp, by simp, by simp⟩
  have vb : Hid (VB ((w.alloc (.cells #[.int .u8 0, .int .u64 0, .string ⟨#[]⟩] 27)).alloc (.cells #[.int .u8 (v 0).k, .int .u64 (v 0).b, .string (v 0).s] 27)) (w.heap.size + 1) (v 0).k (v 0).b (v 0).s) := ⟨by simp, by simp, by simp, by simp, by simp, by simp⟩
  generalize ((w.alloc (.cells #[.int .u8 0, .int .u64 0, .string ⟨#[]⟩] 27)).alloc (.cells #[.int .u8 (v 0).k, .int .u64 (v 0).b, .string (v 0).s] 27)) = W at *
  clear a0 a1 a2 zg m1
  go_loopw [7, 16] (fun f_ i wr => ∃ k : Nat, k ≤ M ∧ i = .int .i64 k ∧ Below w.heap.size w wr ∧ VB wr w.heap.size 0 0 E0 ∧ VB wr (w.heap.size + 1) (acF op v k).1.k (acF op v k).1.b (acF op v k).1.s) (fun _ i _ => l - (intOf i).toNat)
  case atStart => exact ⟨0, Nat.zero_le _, rfl, gr.out, rb.out, vb.out⟩
  case round =>
    obtain ⟨k, hk, rfl, hb, hr, hx⟩ := hrel
    have Bw : Hid (Below w.heap.size w wr) := hb
    have RB : Hid (VB wr w.heap.size 0 0 E0) := hr
    have VX : Hid (VB wr (w.heap.size + 1) (acF op v k).1.k (acF op v k).1.b (acF op v k).1.s) := hx
    have zV : w.heap.size + 1 < wr.heap.size := block_lt_of_cell hx.c0
    have HK : Hid _ := hk
    clear hb hr hx rb vb gr hk
    by_cases hlt : k < l
    · have hlt' : (k : Int) < l := by omega
      have LT : Hid _ := hlt
      obtain ⟨y0, y1, y2⟩ := A1'.nx (HV.out.below Bw.out) (k := k) (by omega)
      have O1 : Hid _ := HA.out k hlt
      have O2 : Hid _ := HO.out (k + 1) (by omega)
      have F1 : Hid _ := HF.out k hlt
      obtain ⟨q0, q1, q2, q3, q4, q5⟩ := VX.out
      clear hlt
      generalize (acF op v k).1 = x at *
      generalize hy : (acF op v (k + 1)).1 = x' at *
      generalize hf : (acF op v (k + 1)).2 = f' at *
      have HY : Hid _ := hy
      have HFF : Hid _ := hf
      clear hy hf
      obtain ⟨xk, xb, xs⟩ := x
      obtain ⟨zk, zb, zs⟩ := x'
      have RC : Hid (∀ w, Calls Tryz.prog 86 #[.int .i64 op, V xk xb xs, V (v (k + 1)).k (v (k + 1)).b (v (k + 1)).s] w fun e w' => e = .returned (.tuple #[V zk zb zs, .int .i64 f']) ∧ Below w.heap.size w w') := by
        intro w
        have := Reckon_of op xk xb (v (k + 1)).k (v (k + 1)).b xs (v (k + 1)).s w O1.out.b0 O1.out.b1 ⟨O1.out.k0, O1.out.k1⟩ O1.out.s1 O2.out.b0 O2.out.b1 ⟨O2.out.k0, O2.out.k1⟩ O2.out.s1
        rwa [F1.out] at this
      go_wp2_with fail
      refine (RC.out _).mono ?_
      rintro e w5 ⟨rfl, hb5⟩
      have gA : Hid (Below wr.heap.size wr w5) := ((Below.refl _ _).alloc (Nat.le_refl _) _).trans (hb5.mono (by simp))
      have BZ : Hid (Below w.heap.size w w5) := Bw.out.trans (gA.out.mono Bw.out.size)
      have RY : Hid (VB w5 w.heap.size 0 0 E0) := RB.out.below gA.out
      have VY : Hid (VB w5 (w.heap.size + 1) xk xb xs) := VX.out.below gA.out
      clear hb5 q0 q1 q2 q3 q4 q5 y0 y1 y2 zV
      obtain ⟨q0, q1, q2, q3, q4, q5⟩ := VY.out
      obtain ⟨r0, r1, r2, r3, r4, r5⟩ := RY.out.apart (q := w.heap.size + 1) (rk := zk) (rb := zb) (rs := zs) (by omega)
      by_cases lt : k < M
      · obtain rfl : f' = 0 := by rw [← HFF.out]; exact HZ.out (k + 1) (by omega)
        have m3 : (l : Int) < 1000000 := by have := HL.out; omega
        have ew : wrap64 ((k : Int) + 1) = (k : Int) + 1 := by have := LT.out; unfold wrap64; omega
        go_wp2
        exact ⟨⟨k + 1, by omega, by go_num, ((BZ.out.setCell (by simp) _).setCell (by simp) _).setCell (by simp) _, RY.out.apart (by omega), by rw [HY.out]; exact VY.out.put⟩, by have := LT.out; simp [intOf]; omega⟩
      · obtain rfl : k = M := by have := HK.out; omega
        have nz := (HR2.out LT.out)
        rw [HFF.out] at nz
        have n0 : (f' == 0) = false := by simpa using nz.1
        have n1 : (f' != 0) = true := by simpa using nz.1
        have ER := nz.2
        clear nz lt
        subst ER
        go_wp2
        exact bodyPost_ret (v := .tuple #[V 0 0 E0, .int .i64 f']) (by simp [results, Tryz.results36, go_sem, r0, r1, r2]) rfl ⟨rfl, by have b5 := BZ.out; go_grown⟩
    · have E := HM.out
      have K' := HK.out
      have hk' : ¬ (k : Int) < l := by omega
      obtain rfl : k = l := by omega
      obtain rfl : M = k := by omega
      have ER := HR1.out rfl
      obtain ⟨q0, q1, q2, q3, q4, q5⟩ := VX.out
      obtain ⟨r0, r1, r2, r3, r4, r5⟩ := RB.out
      clear hlt E K' zV
      subst ER
      go_wp2
      exact bodyPost_ret (v := .tuple #[V (acF op v M).1.k (acF op v M).1.b (acF op v M).1.s, .int .i64 0]) (by simp [results, Tryz.results36, go_sem, r0, r1, r2]) rfl ⟨rfl, ((Bw.out.setCell (by simp) _).setCell (by simp) _).setCell (by simp) _⟩
end
end Go.Proofs.YtpaibmganlaaeaaGreatDoor
namespace Go.Proofs.YtpaibmganlaaeaaGreatDoor
set_option linter.unusedVariables false
open Go.RowKit
set_option maxHeartbeats 1000000 in
theorem FloatV_of (b : Int) (s : ByteArray) (w : World) (h0 : 0 ≤ b) (h1 : b < 18446744073709551616) (hs : s.size ≤ maxLen) (m : may3 18 b s = true) :
    Calls Tryz.prog 94 #[V 18 b s] w fun e w' => e = .returned (.tuple #[.float .f64 b.toNat, .bool true]) ∧ Below w.heap.size w w' := by
  have M : Hid _ := m
  have fb := call_frombits
  clear m
  go_enter Tryz.func94, Tryz.ntmps94
  go_wp2_with (first | (go_at_call 15; refine (May_is _ _ _ _ true h0 h1 (by decide) hs M.out).mono ?_; rintro e w1 ⟨rfl, hb⟩; obtain ⟨q, fq⟩ := bcell hb; have q0 := q w.heap.size 0 (by simp); have q1 := q w.heap.size 1 (by simp); have q2 := q w.heap.size 2 (by simp); simp at q0 q1 q2; have HB : Hid (Below w.heap.size w w1) := ((Below.refl _ _).alloc (Nat.le_refl _) _).trans (hb.mono (by simp)); clear hb q fq))
  go_ret2
  exact ⟨rfl, HB.out⟩
def trc (x : Nat) : Nat := match FloatKind.f64.decode x with
  | .nan s t => x
  | d => FloatKind.f64.encode (d.integral .zero)
def trcS (x : Nat) (d : Ieee.Datum) : Sem Value := match d with
  | .nan s t =>
    if FloatKind.f64.format.quiet t = t then pure (.float .f64 x) else do
    let kept ← choose (.extern "math.Floor,Ceil,Trunc,RoundToEven.signallingNaN kept" 2)
    pure (.float .f64 (if kept == 1 then x else FloatKind.f64.encode (.nan s (FloatKind.f64.format.quiet t))))
  | d => pure (.float .f64 (FloatKind.f64.encode (d.integral .zero)))
theorem trcS_run (x : Nat) (h : calm x) (w : World) : (trcS x (FloatKind.f64.decode x)).run Tryz.prog w = .ok (.float .f64 (trc x)) w := by
  unfold trc
  unfold calm at h
  cases e : FloatKind.f64.decode x with
  | nan s t =>
    have q := h s t e
    show (if FloatKind.f64.format.quiet t = t then pure (.float .f64 x) else _ : Sem Value).run Tryz.prog w = _
    rw [if_pos q]
    rfl
  | _ => rfl
theorem call_trunc (x : Nat) (h : calm x) (w : World) : (callFunc 145 #[.float .f64 x]).run Tryz.prog w = .ok (.value (.float .f64 (trc x))) w := by
  refine (run_callFunc_extern (e := Extern.MathFloor.toIntegral "math.archTrunc" .zero) Tryz.func145 (by kernel_rfl) (by kernel_rfl) (by kernel_rfl) (by kernel_rfl) _ w).trans ?_
  have : Extern.MathFloor.toIntegral "math.archTrunc" .zero #[.float .f64 x] = trcS x (FloatKind.f64.decode x) := rfl
  rw [this, trcS_run x h w]
  rfl
theorem trc_lt (x : Nat) (h : x < 18446744073709551616) : trc x < 18446744073709551616 := by
  unfold trc
  split
  · exact h
  · exact Ieee.Format.write_lt FloatKind.f64.format _
set_option maxHeartbeats 1000000 in
theorem Trunc_of (x : Nat) (w : World) (h : calm x) : Calls Tryz.prog 115 #[.float .f64 x] w fun e w' => e = .returned (.float .f64 (trc x)) ∧ w' = w := by
  have ct := fun w => call_trunc x h w
  go_enter Tryz.func115, Tryz.ntmps115
  go_wp2
  go_ret
  exact ⟨rfl, rfl⟩
end Go.Proofs.YtpaibmganlaaeaaGreatDoor
namespace Go.Proofs.YtpaibmganlaaeaaGreatDoor
set_option linter.unusedVariables false
open Go.RowKit
section
variable (g n cap : Nat) (hw : Int) (k b : Int) (s : ByteArray) (w : World)
set_option maxHeartbeats 1000000 in
theorem truncate_g (rk rb fa : Int) (rs : ByteArray) (ha : A1 w g ⟨18, b, s⟩) (hn : (0 : Int) < n) (h0 : 0 ≤ b) (h1 : b < 18446744073709551616) (hs : s.size ≤ maxLen) (m : may3 18 b s = true)
    (M : ∀ W, Below w.heap.size w W → Calls Tryz.prog 114 #[.int .u8 5, V 18 (lrealB (trc b.toNat)) E0] W fun e w' => e = .returned (.tuple #[V rk rb rs, .int .i64 fa]) ∧ Below W.heap.size W w') :
    Calls Tryz.prog 68 #[.int .i64 hw, .slice (some ⟨g, 0, none⟩) n cap] w fun e w' => e = .returned (.tuple #[V rk rb rs, .int .i64 fa]) ∧ Below w.heap.size w w' := by
  have HM : Hid _ := M
  have FL : Hid _ := fun w => FloatV_of b s w h0 h1 hs m
  have TR : Hid _ := fun w => Trunc_of b.toNat w (may_calm h0 m)
  have LR : Hid _ := fun w => Lreal_of (trc b.toNat) w
  obtain ⟨a0, a1, a2⟩ := ha
  have zg : g < w.heap.size := block_lt_of_cell a0
  clear M m
  go_enter Tryz.func68, Tryz.ntmps68
  go_wp2_with (first
    | (go_at_call 94; refine (FL.out _).mono ?_; rintro e w1 ⟨rfl, hb⟩; have B1 : Hid (Below w.heap.size w w1) := ((Below.refl _ _).alloc (Nat.le_refl _) _).trans (hb.mono (by simp)); have R1 : Hid (VB w1 w.heap.size 0 0 E0) := VB.below (w := w.alloc (.cells #[.int .u8 0, .int .u64 0, .string ⟨#[]⟩] 27)) ⟨by simp, by simp, by simp, by simp, by simp, by simp⟩ hb; clear hb)
    | (go_at_call 115; refine (TR.out _).mono ?_; rintro e w2 ⟨rfl, rfl⟩)
    | (go_at_call 95; refine (LR.out _).mono ?_; rintro e w3 ⟨rfl, hb⟩; have B3 : Hid (Below w.heap.size w w3) := B1.out.trans (hb.mono B1.out.size); have R3 : Hid (VB w3 w.heap.size 0 0 E0) := R1.out.below hb; clear hb)
    | (go_at_call 114; refine (HM.out _ B3.out).mono ?_; rintro e w4 ⟨rfl, hb⟩; have B4 : Hid (Below w.heap.size w w4) := B3.out.trans (hb.mono B3.out.size); obtain ⟨r0, r1, r2, r3, r4, r5⟩ := R3.out.below hb; clear hb))
  exact bodyPost_ret (v := .tuple #[V rk rb rs, .int .i64 fa]) (by simp [results, Tryz.results68, go_sem, r0, r1, r2]) rfl ⟨rfl, ((B4.out.setCell (by simp) _).setCell (by simp) _).setCell (by simp) _⟩
set_option maxHeartbeats 1000000 in
theorem size_real (ha : A1 w g ⟨18, b, s⟩) (hn : (0 : Int) < n) (h0 : 0 ≤ b) (h1 : b < 18446744073709551616) (hs : s.size ≤ maxLen) (m : may3 18 b s = true) (x : Nat) (hx : (bits BinOp.andNot IntKind.u64 (b.toNat : Int) 9223372036854775808).toNat = x) :
    Calls Tryz.prog 44 #[.int .i64 hw, .slice (some ⟨g, 0, none⟩) n cap] w fun e w' => e = .returned (.tuple #[V 18 (lrealB x) E0, .int .i64 0]) ∧ Below w.heap.size w w' := by
  have FL : Hid _ := fun w => FloatV_of b s w h0 h1 hs m
  have AB : Hid (∀ w, Calls Tryz.prog 96 #[.float .f64 b.toNat] w fun e w' => e = .returned (.float .f64 x) ∧ w' = w) := fun w => by have := Abs_of b.toNat w; rwa [hx] at this
  have LR : Hid _ := fun w => Lreal_of x w
  obtain ⟨a0, a1, a2⟩ := ha
  have zg : g < w.heap.size := block_lt_of_cell a0
  clear m hx
  go_enter Tryz.func44, Tryz.ntmps44
  go_wp2_with (first
    | (go_at_call 94; refine (FL.out _).mono ?_; rintro e w1 ⟨rfl, hb⟩; have B1 : Hid (Below w.heap.size w w1) := (((Below.refl _ _).alloc (Nat.le_refl _) _).alloc (by simp) _).trans (hb.mono (by simp; omega)); have R1 : Hid (VB w1 w.heap.size 0 0 E0) := VB.below (w := (w.alloc (.cells #[.int .u8 0, .int .u64 0, .string ⟨#[]⟩] 27)).alloc (.cells #[.int .u8 18, .int .u64 b, .string s] 27)) ⟨by simp, by simp, by simp, by simp, by simp, by simp⟩ hb; clear hb)
    | (go_at_call 96; refine (AB.out _).mono ?_; rintro e w2 ⟨rfl, rfl⟩)
    | (go_at_call 95; refine (LR.out _).mono ?_; rintro e w3 ⟨rfl, hb⟩; have B3 : Hid (Below w.heap.size w w3) := B1.out.trans (hb.mono B1.out.size); obtain ⟨r0, r1, r2, r3, r4, r5⟩ := R1.out.below hb; clear hb))
  exact bodyPost_ret (v := .tuple #[V 18 (lrealB x) E0, .int .i64 0]) (by simp [results, Tryz.results44, go_sem, r0, r1, r2]) rfl ⟨rfl, ((B3.out.setCell (by simp) _).setCell (by simp) _).setCell (by simp) _⟩
set_option maxHeartbeats 1000000 in
theorem size_neg (rk rb fa : Int) (rs : ByteArray) (ha : A1 w g ⟨k, b, s⟩) (hn : (0 : Int) < n) (hk : (k == 18) = false)
    (Z : ∀ w, Calls Tryz.prog 97 #[V k b s] w fun e w' => e = .returned (.bool true) ∧ Below w.heap.size w w')
    (T : ∀ w, Calls Tryz.prog 89 #[.int .i64 15, V k b s] w fun e w' => e = .returned (.tuple #[V rk rb rs, .int .i64 fa]) ∧ Below w.heap.size w w') :
    Calls Tryz.prog 44 #[.int .i64 hw, .slice (some ⟨g, 0, none⟩) n cap] w fun e w' => e = .returned (.tuple #[V rk rb rs, .int .i64 fa]) ∧ Below w.heap.size w w' := by
  have HZ : Hid _ := Z
  have HT : Hid _ := T
  obtain ⟨a0, a1, a2⟩ := ha
  have zg : g < w.heap.size := block_lt_of_cell a0
  clear Z T
  go_enter Tryz.func44, Tryz.ntmps44
  go_wp2_with (first
    | (go_at_call 97; refine (HZ.out _).mono ?_; rintro e w1 ⟨rfl, hb⟩; have B1 : Hid (Below w.heap.size w w1) := (((Below.refl _ _).alloc (Nat.le_refl _) _).alloc (by simp) _).trans (hb.mono (by simp; omega)); have R1 : Hid (VB w1 w.heap.size 0 0 E0) := VB.below (w := (w.alloc (.cells #[.int .u8 0, .int .u64 0, .string ⟨#[]⟩] 27)).alloc (.cells #[.int .u8 k, .int .u64 b, .string s] 27)) ⟨by simp, by simp, by simp, by simp, by simp, by simp⟩ hb; have V1 : Hid (VB w1 (w.heap.size + 1) k b s) := VB.below (w := (w.alloc (.cells #[.int .u8 0, .int .u64 0, .string ⟨#[]⟩] 27)).alloc (.cells #[.int .u8 k, .int .u64 b, .string s] 27)) ⟨by simp, by simp, by simp, by simp, by simp, by simp⟩ hb; obtain ⟨c0, c1, c2, c3, c4, c5⟩ := V1.out; clear hb)
    | (go_at_call 89; refine (HT.out _).mono ?_; rintro e w3 ⟨rfl, hb⟩; have B3 : Hid (Below w.heap.size w w3) := B1.out.trans (hb.mono B1.out.size); obtain ⟨r0, r1, r2, r3, r4, r5⟩ := R1.out.below hb; clear hb))
  exact bodyPost_ret (v := .tuple #[V rk rb rs, .int .i64 fa]) (by simp [results, Tryz.results44, go_sem, r0, r1, r2]) rfl ⟨rfl, ((B3.out.setCell (by simp) _).setCell (by simp) _).setCell (by simp) _⟩
set_option maxHeartbeats 1000000 in
theorem size_pos (ha : A1 w g ⟨k, b, s⟩) (hn : (0 : Int) < n) (hk : (k == 18) = false)
    (Z : ∀ w, Calls Tryz.prog 97 #[V k b s] w fun e w' => e = .returned (.bool false) ∧ Below w.heap.size w w') :
    Calls Tryz.prog 44 #[.int .i64 hw, .slice (some ⟨g, 0, none⟩) n cap] w fun e w' => e = .returned (.tuple #[V k b s, .int .i64 0]) ∧ Below w.heap.size w w' := by
  have HZ : Hid _ := Z
  obtain ⟨a0, a1, a2⟩ := ha
  have zg : g < w.heap.size := block_lt_of_cell a0
  clear Z
  go_enter Tryz.func44, Tryz.ntmps44
  go_wp2_with (first
    | (go_at_call 97; refine (HZ.out _).mono ?_; rintro e w1 ⟨rfl, hb⟩; have B1 : Hid (Below w.heap.size w w1) := (((Below.refl _ _).alloc (Nat.le_refl _) _).alloc (by simp) _).trans (hb.mono (by simp; omega)); obtain ⟨r0, r1, r2, r3, r4, r5⟩ := VB.below (h := w.heap.size) (k := 0) (b := 0) (s := E0) (w := (w.alloc (.cells #[.int .u8 0, .int .u64 0, .string ⟨#[]⟩] 27)).alloc (.cells #[.int .u8 k, .int .u64 b, .string s] 27)) ⟨by simp, by simp, by simp, by simp, by simp, by simp⟩ hb; have V1 : Hid (VB w1 (w.heap.size + 1) k b s) := VB.below (w := (w.alloc (.cells #[.int .u8 0, .int .u64 0, .string ⟨#[]⟩] 27)).alloc (.cells #[.int .u8 k, .int .u64 b, .string s] 27)) ⟨by simp, by simp, by simp, by simp, by simp, by simp⟩ hb; obtain ⟨c0, c1, c2, c3, c4, c5⟩ := V1.out; clear hb))
  exact bodyPost_ret (v := .tuple #[V k b s, .int .i64 0]) (by simp [results, Tryz.results44, go_sem, r0, r1, r2]) rfl ⟨rfl, ((B1.out.setCell (by simp) _).setCell (by simp) _).setCell (by simp) _⟩
end
end Go.Proofs.YtpaibmganlaaeaaGreatDoor
namespace Go.Proofs.YtpaibmganlaaeaaGreatDoor
set_option linter.unusedVariables false
open Go.RowKit
section
variable (g cap : Nat) (hw : Int) (k b kd d : Int) (s r : ByteArray) (w : World)
set_option maxHeartbeats 1000000 in
theorem find_g (rb : Int) (ha : A2 w g ⟨k, b, s⟩ ⟨kd, d, r⟩) (hm : MxL w) (hz : s.size ≤ 254) (z : Int) (hi : Lib.index s.data.toList r.data.toList = z) (z0 : -1 ≤ z) (z1 : z ≤ 254) (I : ∀ w, Calls Tryz.prog 108 #[.int .u8 3, .int .i64 (z + 1)] w fun e w' => e = .returned (.tuple #[V 3 rb E0, .int .i64 0]) ∧ Below w.heap.size w w') :
    Calls Tryz.prog 66 #[.int .i64 hw, .slice (some ⟨g, 0, none⟩) 2 cap] w fun e w' => e = .returned (.tuple #[V 3 rb E0, .int .i64 0]) ∧ Below w.heap.size w w' := by
  have HI : Hid _ := I
  have IX : Hid (∀ W, MxL W → Calls Tryz.prog 113 #[.string s, .string r] W fun e w' => e = .returned (.int .i64 z) ∧ w' = W) := fun W h => by
    obtain ⟨m, h⟩ := h
    have := Tryz.strings_Index s r m W (by omega) h
    rwa [hi] at this
  have HM : Hid _ := hm
  obtain ⟨a0, a1, a2, a3, a4, a5⟩ := ha
  have zg : g < w.heap.size := block_lt_of_cell a0
  clear hm I hi hz
  go_enter Tryz.func66, Tryz.ntmps66
  go_wp2_with fail
  have gr : Hid (Below w.heap.size w (w.alloc (.cells #[.int .u8 0, .int .u64 0, .string ⟨#[]⟩] 27))) := (Below.refl _ _).alloc (Nat.le_refl _) _
  have rb_ : Hid (VB (w.alloc (.cells #[.int .u8 0, .int .u64 0, .string ⟨#[]⟩] 27)) w.heap.size 0 0 E0) := ⟨by simp, by simp, by simp, by simp, by simp, by simp⟩
  have c0 := (gr.out.cell (p := ⟨g, 0, none⟩) zg).trans a0
  have c1 := (gr.out.cell (p := ⟨g, 1, none⟩) zg).trans a1
  have c2 := (gr.out.cell (p := ⟨g, 2, none⟩) zg).trans a2
  have c3 := (gr.out.cell (p := ⟨g, 3, none⟩) zg).trans a3
  have c4 := (gr.out.cell (p := ⟨g, 4, none⟩) zg).trans a4
  have c5 := (gr.out.cell (p := ⟨g, 5, none⟩) zg).trans a5
  generalize (w.alloc (.cells #[.int .u8 0, .int .u64 0, .string ⟨#[]⟩] 27)) = W at *
  have MW : Hid (MxL W) := MxL.below HM.out gr.out
  have HI2 : Hid (∀ w, Calls Tryz.prog 108 #[.int .u8 3, .int .i64 (IntKind.i64.wrap (z + 1))] w fun e w' => e = .returned (.tuple #[V 3 rb E0, .int .i64 0]) ∧ Below w.heap.size w w') := fun w => by rw [show IntKind.i64.wrap (z + 1) = z + 1 by rw [IntKind.wrap_i64]; omega]; exact HI.out w
  have e1 := World.new_ne W ⟨g, 2, none⟩ c2
  have g1 : ¬ w.heap.size = g := by omega
  have g2 : ¬ g = w.heap.size := by omega
  clear a0 a1 a2 a3 a4 a5 z0 z1 zg
  have MD : Hid (MxL W.drew) := MW.out.below (Below.refl _ _).drew
  have IXD : Hid _ := IX.out W.drew MD.out
  have zG : g < W.drew.heap.size := by have := block_lt_of_cell c2; simpa using this
  go_region_held3 (fun w' => w'.cell? ⟨g, 2, none⟩ = some (.string s) ∧ w'.cell? ⟨g, 5, none⟩ = some (.string r)) (go_keep) (first
    | (go_at_call 113; refine Calls.mono IXD.out ?_; rintro e w5 ⟨rfl, rfl⟩)
    | (go_at_call 108; refine (HI2.out _).mono ?_; rintro e w6 ⟨rfl, hb6⟩; have B6 : Hid (Below w.heap.size w w6) := gr.out.drew.trans (hb6.mono gr.out.size); obtain ⟨r0, r1, r2, r3, r4, r5⟩ := (rb_.out.below (Below.refl _ _).drew).below hb6; have k2 := (hb6.cell (p := ⟨g, 2, none⟩) zG).trans c2; have k5 := (hb6.cell (p := ⟨g, 5, none⟩) zG).trans c5; clear hb6))
  go_wp2
  exact bodyPost_ret (v := .tuple #[V 3 rb E0, .int .i64 0]) (by simp [results, Tryz.results66, go_sem, r0, r1, r2]) rfl ⟨rfl, ((B6.out.setCell (by simp) _).setCell (by simp) _).setCell (by simp) _⟩
end
end Go.Proofs.YtpaibmganlaaeaaGreatDoor
namespace Go.Proofs.YtpaibmganlaaeaaGreatDoor
set_option linter.unusedVariables false
open Go.RowKit
section
variable (k b : Int) (s : ByteArray) (w : World)
set_option maxHeartbeats 1000000 in
theorem isBelowZero_14 (h0 : 0 ≤ b) (h1 : b < 18446744073709551616) (hs : s.size ≤ maxLen) (m : may3 14 b s = true) :
    Calls Tryz.prog 97 #[V 14 b s] w fun e w' => e = .returned (.bool (decide (num 14 b < 0))) ∧ Below w.heap.size w w' := by
  have z : num 14 0 = 0 := by unfold num wrap64; rfl
  have c : cL 14 b 0 s E0 = decide (num 14 b < 0) := by
    unfold cL
    rw [if_neg (by omega), if_neg (by omega), z]
    unfold cmpI
    by_cases a : num 14 b < 0
    · simp [a]
    · by_cases d : 0 < num 14 b
      · simp [a, d]
      · simp [a, d]
  have H : Hid (∀ w, Calls Tryz.prog 91 #[.int .i64 11, V 14 b s, V 14 0 E0] w fun e w' => e = .returned (.bool (decide (num 14 b < 0))) ∧ Below w.heap.size w w') := by
    intro w
    have := holdsS_lt 14 b 0 s E0 w h0 h1 (by omega) hs (by omega) (by omega) (by decide) m (by simp [may3, mayW])
    rwa [c] at this
  have Z : Hid (∀ w, Calls Tryz.prog 131 #[.int .u8 14] w fun e w' => e = .returned (V 14 0 E0) ∧ Below w.heap.size w w') := by
    intro w
    have := Zero_of 14 w
    rwa [show zeroK 14 = 14 by unfold zeroK; rw [if_pos (by omega)]] at this
  clear c z m
  generalize decide (num 14 b < 0) = p at *
  go_enter Tryz.func97, Tryz.ntmps97
  go_wp2_with fail
  refine wp_region_sub2 (by kernel_rfl) (by kernel_rfl) ?_
  intro cx
  repeat (first | go_big_quiet_skip | (go_big_quiet_want; go_big_quiet_op; first | go_big_quiet_on | (refine ⟨_, fun _ => rfl, ?_⟩; go_big_quiet_on) | go_big_quiet_call (first | (go_at_call 131; exact calls_sub (Z.out _)) | (go_at_call 91; exact calls_sub (H.out _)))))
  refine wpQuiet_nil ?_
  rintro _ ⟨y, rfl⟩
  have Y : Hid (Below w.heap.size w y.w) := ((Below.refl _ _).alloc (Nat.le_refl _) _).trans (y.h.mono (by simp))
  clear cx
  go_wp2
  go_ret
  exact ⟨rfl, Y.out⟩
end
section
variable (g cap : Nat) (k b l c hw : Int) (s t : ByteArray) (w : World)
set_option maxHeartbeats 1000000 in
theorem shl1_of (r wd : Int) (h0 : 0 ≤ c) (h1 : c < 18446744073709551616) : Calls Tryz.prog 101 #[.int .u64 r, .int .u64 wd, .int .u64 c] w fun e w' => e = .returned (.int .u64 (IntKind.u64.wrap (r * 2 ^ min c.toNat 64))) ∧ w' = w := by
  go_enter Tryz.func101, Tryz.ntmps101
  go_wp2
  go_ret
  exact ⟨rfl, rfl⟩
set_option maxHeartbeats 1000000 in
theorem shr1_of (r wd : Int) (h0 : 0 ≤ c) (h1 : c < 18446744073709551616) : Calls Tryz.prog 102 #[.int .u64 r, .int .u64 wd, .int .u64 c] w fun e w' => e = .returned (.int .u64 (r / 2 ^ min c.toNat 64)) ∧ w' = w := by
  go_enter Tryz.func102, Tryz.ntmps102
  go_wp2
  go_ret
  exact ⟨rfl, rfl⟩
theorem enter_shl (args : Array Value) (w : World) : (callFunc 101 args).run Tryz.prog w = .ok (.enter 101 args) w := by kernel_rfl
theorem enter_shr (args : Array Value) (w : World) : (callFunc 102 args).run Tryz.prog w = .ok (.enter 102 args) w := by kernel_rfl
set_option maxHeartbeats 1000000 in
theorem shiftLeft_g (rk rb fa : Int) (rs : ByteArray) (M : ∀ W, Below w.heap.size w W → Calls Tryz.prog 100 #[.slice (some ⟨g, 0, none⟩) 2 cap, .func (.func 101) #[] #[]] W fun e w' => e = .returned (.tuple #[V rk rb rs, .int .i64 fa]) ∧ Below W.heap.size W w') :
    Calls Tryz.prog 51 #[.int .i64 hw, .slice (some ⟨g, 0, none⟩) 2 cap] w fun e w' => e = .returned (.tuple #[V rk rb rs, .int .i64 fa]) ∧ Below w.heap.size w w' := by
  have HM : Hid _ := M
  clear M
  go_enter Tryz.func51, Tryz.ntmps51
  go_wp2_with (first | (go_at_call 100; refine (HM.out _ ((Below.refl _ _).alloc (Nat.le_refl _) _)).mono ?_; rintro e w1 ⟨rfl, hb⟩; obtain ⟨q, fq⟩ := bcell hb; have s1 := hb.size; (try simp at s1); have q0 := q w.heap.size 0 (by simp); have q1 := q w.heap.size 1 (by simp); have q2 := q w.heap.size 2 (by simp); have f0 := fq w.heap.size 0 (by simp); have f1 := fq w.heap.size 1 (by simp); have f2 := fq w.heap.size 2 (by simp); simp at q0 q1 q2 f0 f1 f2; have HB : Hid (Below w.heap.size w w1) := ((Below.refl _ _).alloc (Nat.le_refl _) _).trans (hb.mono (by simp)); clear hb q fq))
  exact bodyPost_ret (v := .tuple #[V rk rb rs, .int .i64 fa]) (by simp [results, Tryz.results51, go_sem, q0, q1, q2]) rfl ⟨rfl, ((HB.out.setCell (by simp) _).setCell (by simp) _).setCell (by simp) _⟩
set_option maxHeartbeats 1000000 in
theorem shiftRight_g (rk rb fa : Int) (rs : ByteArray) (M : ∀ W, Below w.heap.size w W → Calls Tryz.prog 100 #[.slice (some ⟨g, 0, none⟩) 2 cap, .func (.func 102) #[] #[]] W fun e w' => e = .returned (.tuple #[V rk rb rs, .int .i64 fa]) ∧ Below W.heap.size W w') :
    Calls Tryz.prog 52 #[.int .i64 hw, .slice (some ⟨g, 0, none⟩) 2 cap] w fun e w' => e = .returned (.tuple #[V rk rb rs, .int .i64 fa]) ∧ Below w.heap.size w w' := by
  have HM : Hid _ := M
  clear M
  go_enter Tryz.func52, Tryz.ntmps52
  go_wp2_with (first | (go_at_call 100; refine (HM.out _ ((Below.refl _ _).alloc (Nat.le_refl _) _)).mono ?_; rintro e w1 ⟨rfl, hb⟩; obtain ⟨q, fq⟩ := bcell hb; have s1 := hb.size; (try simp at s1); have q0 := q w.heap.size 0 (by simp); have q1 := q w.heap.size 1 (by simp); have q2 := q w.heap.size 2 (by simp); have f0 := fq w.heap.size 0 (by simp); have f1 := fq w.heap.size 1 (by simp); have f2 := fq w.heap.size 2 (by simp); simp at q0 q1 q2 f0 f1 f2; have HB : Hid (Below w.heap.size w w1) := ((Below.refl _ _).alloc (Nat.le_refl _) _).trans (hb.mono (by simp)); clear hb q fq))
  exact bodyPost_ret (v := .tuple #[V rk rb rs, .int .i64 fa]) (by simp [results, Tryz.results52, go_sem, q0, q1, q2]) rfl ⟨rfl, ((HB.out.setCell (by simp) _).setCell (by simp) _).setCell (by simp) _⟩
end
theorem and_row (R : Int) (n : Nat) (hn : n ≤ 64) (h0 : 0 ≤ R) (h1 : R < 18446744073709551616) : 0 ≤ bits .and .u64 R ((2 ^ n - 1 : Nat) : Int) ∧ bits .and .u64 R ((2 ^ n - 1 : Nat) : Int) < ((2 ^ n : Nat) : Int) := by
  obtain ⟨a, rfl⟩ : ∃ a : Nat, R = a := ⟨R.toNat, by omega⟩
  have p : 2 ^ n ≤ 2 ^ 64 := Nat.pow_le_pow_right (by omega) hn
  have q : 0 < 2 ^ n := Nat.pow_pos (by omega)
  rw [bits_and_u64_nat a (2 ^ n - 1) (by omega) (by omega)]
  have := @Nat.and_le_right a (2 ^ n - 1)
  omega
theorem row_may (k b x : Int) (s : ByteArray) (hkk : k = 10 ∨ k = 11 ∨ k = 12 ∨ k = 13) (mb : may3 k b s = true) (h : x < ((2 ^ wdK k : Nat) : Int)) : may3 k x s = true := by
  rcases hkk with rfl | rfl | rfl | rfl <;> simp [may3, mayW, wdK] at mb h ⊢ <;> first | exact ⟨mb.1, by omega⟩ | exact mb
end Go.Proofs.YtpaibmganlaaeaaGreatDoor
namespace Go.Proofs.YtpaibmganlaaeaaGreatDoor
set_option linter.unusedVariables false
open Go.RowKit
/-- Values that may be. -/
structure Gd (n : Nat) (v : Nat → Vl) : Prop where
  o : ∀ i, i < n → VlOk (v i)
  m : ∀ i, i < n → may3 (v i).k (v i).b (v i).s = true
/-- A function gives a value of the kind, or a fault of its own. -/
def GvOk (gv : Nat) (hw : Int) (n : Nat) (v : Nat → Vl) (R : Int) : Prop := ∃ rk rb rs fa, GdR R rk rb rs fa ∧ ∀ W g cap, Pow W → MxL W → VsAt W ⟨g, 0, none⟩ n v → n ≤ cap →
  Calls Tryz.prog gv #[.int .i64 hw, .slice (some ⟨g, 0, none⟩) n cap] W fun e w' => e = .returned (.tuple #[V rk rb rs, .int .i64 fa]) ∧ Below W.heap.size W w'
theorem zeroK_ne {k : Int} (h : ¬ zeroK k = 0) : zeroK k = k ∧ 1 ≤ k ∧ k ≤ 19 := by
  unfold zeroK at h ⊢
  by_cases q : 1 ≤ k ∧ k ≤ 19
  · rw [if_pos q]; exact ⟨rfl, q⟩
  · rw [if_neg q] at h; exact absurd rfl h
theorem com_ne {n : Nat} {κ : Nat → Int} (h : ¬ comK n κ = 0) : comK n κ = κ 0 ∧ (1 ≤ κ 0 ∧ κ 0 ≤ 19) ∧ ∀ i, i < n → κ i = κ 0 := by
  unfold comK at h ⊢
  by_cases a : allS n κ = true
  · rw [if_pos a] at h ⊢
    have z := zeroK_ne h
    exact ⟨z.1, z.2, of_decide_eq_true a⟩
  · rw [if_neg a] at h; exact absurd rfl h
theorem gv_ne {k : Int} {p : Bool} (h : ¬ gvK k p = 0) : p = true ∧ gvK k p = k := by
  cases p
  · exact absurd rfl h
  · exact ⟨rfl, rfl⟩
theorem Gd.fam {n : Nat} {v : Nat → Vl} (G : Gd n v) (K : Int) (h : ∀ i, i < n → (v i).k = K) : Fam n v K := ⟨h, G.o, fun i hi => by have := G.m i hi; rwa [h i hi] at this⟩
section
variable (op : Int) (v : Nat → Vl)
theorem ac_step (j : Nat) : reckR op (acF op v j).1.k (acF op v j).1.b (v (j + 1)).k (v (j + 1)).b (acF op v j).1.s (v (j + 1)).s = .tuple #[V (acF op v (j + 1)).1.k (acF op v (j + 1)).1.b (acF op v (j + 1)).1.s, .int .i64 (acF op v (j + 1)).2] := by
  obtain ⟨K, B, S, f, e⟩ := reck_frm op (acF op v j).1.k (acF op v j).1.b (v (j + 1)).k (v (j + 1)).b (acF op v j).1.s (v (j + 1)).s
  have : acF op v (j + 1) = (⟨K, B, S⟩, f) := by unfold acF; rw [e, prs_tuple]
  rw [e, this]
theorem ac_ok : ∀ j, (∀ i, i ≤ j → VlOk (v i)) → VlOk (acF op v j).1
  | 0, h => h 0 (Nat.le_refl _)
  | j + 1, h => by
    have a := ac_ok j (fun i hi => h i (by omega))
    have b := h (j + 1) (Nat.le_refl _)
    obtain ⟨k', b', s', f', e, hb, hk, hs, _⟩ := reck_ok op (acF op v j).1.k (acF op v j).1.b (v (j + 1)).k (v (j + 1)).b (acF op v j).1.s (v (j + 1)).s a.b0 a.b1 ⟨a.k0, a.k1⟩ b.b0 b.b1
    have : acF op v (j + 1) = (⟨k', b', s'⟩, f') := by unfold acF; rw [e, prs_tuple]
    rw [this]
    exact ⟨hk.1, hk.2, hb.1, hb.2, hs⟩
theorem ac_gd (l : Nat) (R : Int) (G : Gd (l + 1) v) (hR : ¬ R = 0) (h1 : resK op (v 0).k (v 1).k = R) (h2 : ∀ j, 1 ≤ j → j < l → resK op R (v (j + 1)).k = R) : ∀ j, 1 ≤ j → j ≤ l → (∀ i, i < j → (acF op v i).2 = 0) → GdR R (acF op v j).1.k (acF op v j).1.b (acF op v j).1.s (acF op v j).2
  | 0, h, _, _ => absurd h (by omega)
  | j + 1, _, hl, hz => by
    have b := G.o (j + 1) (by omega)
    have mb := G.m (j + 1) (by omega)
    have key : GdV R (reckR op (acF op v j).1.k (acF op v j).1.b (v (j + 1)).k (v (j + 1)).b (acF op v j).1.s (v (j + 1)).s) := by
      by_cases j0 : j = 0
      · subst j0
        have a := G.o 0 (by omega)
        have ma := G.m 0 (by omega)
        have := reck_gd op (v 0).k (v 0).b (v 1).k (v 1).b (v 0).s (v 1).s a.b0 a.b1 ⟨a.k0, a.k1⟩ b.b0 b.b1 ma mb (by rw [h1]; exact hR)
        rw [h1] at this
        exact this
      · have g := ac_gd l R G hR h1 h2 j (by omega) (by omega) (fun i hi => hz i (by omega))
        have f0 := hz j (by omega)
        rcases g.ok with ⟨q, _⟩ | ⟨_, ek, m⟩
        · exact absurd f0 q
        · have e2 := h2 j (by omega) (by omega)
          have := reck_gd op (acF op v j).1.k (acF op v j).1.b (v (j + 1)).k (v (j + 1)).b (acF op v j).1.s (v (j + 1)).s g.b0 g.b1 ⟨g.k0, g.k1⟩ b.b0 b.b1 m mb (by rw [ek, e2]; exact hR)
          rw [ek, e2] at this
          rw [ek]
          exact this
    obtain ⟨rk, rb, rs, fa, e, g⟩ := key
    have : acF op v (j + 1) = (⟨rk, rb, rs⟩, fa) := by unfold acF; rw [e, prs_tuple]
    rw [this]
    exact g
theorem gv_reckon (n : Nat) (G : Gd n v) (h2 : 2 ≤ n) (h3 : n ≤ 16) (hR : ¬ rcN op n (fun i => (v i).k) = 0) : GvOk 36 op n v (rcN op n (fun i => (v i).k)) := by
  obtain ⟨l, rfl⟩ : ∃ l, n = l + 1 := ⟨n - 1, by omega⟩
  have e : rcN op (l + 1) (fun i => (v i).k) = resK op (v 0).k (v 1).k := by
    unfold rcN at hR ⊢
    split
    · rename_i q; rw [if_pos q] at hR; exact absurd rfl hR
    · rfl
  have nx : ∀ j, 1 ≤ j → j < l → resK op (resK op (v 0).k (v 1).k) (v (j + 1)).k = resK op (v 0).k (v 1).k := by
    intro j j1 j2
    have q : comK (l + 1) (fun i => (v i).k) = resK op (v 0).k (v 1).k := by
      apply Classical.byContradiction
      intro q
      unfold rcN at hR
      rw [if_pos ⟨by omega, q⟩] at hR
      exact hR rfl
    rw [e] at hR
    have c := com_ne (by rw [q]; exact hR)
    rw [q] at c
    have c1 := c.2.2 1 (by omega)
    have c2 := c.2.2 (j + 1) (by omega)
    have c0 : resK op (v 0).k (v 1).k = (v 0).k := c.1
    have c2' : (v (j + 1)).k = (v 1).k := c2.trans c1.symm
    rw [c2', c0, c0]
  rw [e] at hR ⊢
  have er : resK op (v 0).k (v 1).k = resK op (v 0).k (v 1).k := rfl
  generalize hg : resK op (v 0).k (v 1).k = R at *
  have base := ac_gd op v l R G hR hg nx
  clear e er
  have run : ∀ M Rv, M ≤ l → (∀ j, j ≤ M → (acF op v j).2 = 0) → (M = l → Rv = .tuple #[V (acF op v l).1.k (acF op v l).1.b (acF op v l).1.s, .int .i64 0]) → (M < l → ¬ (acF op v (M + 1)).2 = 0 ∧ Rv = .tuple #[V 0 0 E0, .int .i64 (acF op v (M + 1)).2]) →
      ∀ W g cap, VsAt W ⟨g, 0, none⟩ (l + 1) v → l + 1 ≤ cap → Calls Tryz.prog 36 #[.int .i64 op, .slice (some ⟨g, 0, none⟩) (l + 1) cap] W fun e w' => e = .returned Rv ∧ Below W.heap.size W w' := by
    intro M Rv hM hz r1 r2 W g cap hv hc
    obtain ⟨c, rfl⟩ : ∃ c, cap = c + 1 := ⟨cap - 1, by omega⟩
    exact reckon_of g l c op v W M Rv hv G.o (by omega) (by omega) (by omega) (fun j hj => ac_ok op v j fun i hi => G.o i (by omega)) (fun j _ => ac_step op v j) hM hz r1 r2
  by_cases all : ∀ j, j ≤ l → (acF op v j).2 = 0
  · have g := base l (by omega) (Nat.le_refl _) (fun i hi => all i (by omega))
    have f0 := all l (Nat.le_refl _)
    refine ⟨_, _, _, _, g, ?_⟩
    rw [f0]
    intro W g cap _ _ hv hc
    exact run l _ (Nat.le_refl _) all (fun _ => rfl) (fun h => absurd h (Nat.lt_irrefl _)) W g cap hv hc
  · have ex : ∃ k, 1 ≤ k ∧ k < l + 1 ∧ (!decide ((acF op v k).2 = 0)) = true := by
      apply Classical.byContradiction
      intro q
      refine all fun j hj => ?_
      apply Classical.byContradiction
      intro nz
      by_cases j0 : j = 0
      · subst j0; exact nz rfl
      · exact q ⟨j, by omega, by omega, by simpa using nz⟩
    obtain ⟨K, k1, k2, kp, kl⟩ := least_K (fun k => !decide ((acF op v k).2 = 0)) (l + 1) ex
    obtain ⟨M, rfl⟩ : ∃ M, K = M + 1 := ⟨K - 1, by omega⟩
    have hz : ∀ j, j ≤ M → (acF op v j).2 = 0 := by
      intro j hj
      by_cases j0 : j = 0
      · subst j0; rfl
      · have := kl j (by omega) (by omega)
        simpa using this
    have nz : ¬ (acF op v (M + 1)).2 = 0 := by simpa using kp
    have g := base (M + 1) (by omega) (by omega) (fun i hi => hz i (by omega))
    rcases g.ok with ⟨_, n8, ek, eb, es⟩ | ⟨z, _⟩
    · refine ⟨0, 0, E0, (acF op v (M + 1)).2, gr_fault _ _ nz n8, ?_⟩
      intro W g cap _ _ hv hc
      exact run M _ (by omega) hz (fun h => absurd h (by omega)) (fun _ => ⟨nz, rfl⟩) W g cap hv hc
    · exact absurd z nz
theorem gv_turn (n : Nat) (G : Gd n v) (hn : n = 1) (hR : ¬ tnK (v 0).k = 0) : GvOk 38 16 n v (tnK (v 0).k) := by
  subst hn
  have o := G.o 0 (by omega)
  obtain ⟨rk, rb, rs, fa, e, g⟩ := turn_gd (v 0).k (v 0).b (v 0).s o.b0 o.b1 ⟨o.k0, o.k1⟩ (G.m 0 (by omega)) hR
  refine ⟨rk, rb, rs, fa, g, fun W g cap _ _ hv hc => turnS_g g 1 cap (v 0).k (v 0).b (v 0).s W 16 rk rb fa rs (A1.vs hv (by omega)) (by omega) fun W => ?_⟩
  rw [← e]
  exact Turn_of 16 (v 0).k (v 0).b (v 0).s W o.b0 o.b1 ⟨o.k0, o.k1⟩ o.s1
theorem gv_compare (n : Nat) (G : Gd n v) (h2 : 2 ≤ n) (h3 : n ≤ 16) (ho : 9 ≤ op ∧ op ≤ 14) (hR : ¬ gvK 1 (comK n (fun i => (v i).k) != 0) = 0) : GvOk 40 op n v (gvK 1 (comK n (fun i => (v i).k) != 0)) := by
  have a := gv_ne hR
  have c := com_ne (n := n) (κ := fun i => (v i).k) (by simpa using a.1)
  rw [a.2]
  obtain ⟨l, rfl⟩ : ∃ l, n = l + 1 := ⟨n - 1, by omega⟩
  obtain ⟨rk, rb, rs, fa, e, g⟩ := bool_gd (chF op (v 0).k v l)
  refine ⟨rk, rb, rs, fa, g, fun W g cap _ _ hv hc => ?_⟩
  obtain ⟨cc, rfl⟩ : ∃ c, cap = c + 1 := ⟨cap - 1, by omega⟩
  rw [← e]
  exact compare_of g l cc op (v 0).k v W (G.fam (v 0).k c.2.2) hv (by omega) (by omega) (by omega) ho
theorem Gd.val {n : Nat} {v : Nat → Vl} (G : Gd n v) (j : Nat) (hj : j < n) : GdR (v j).k (v j).k (v j).b (v j).s 0 := by
  have o := G.o j hj
  exact gr_val _ _ _ ⟨o.k0, o.k1⟩ ⟨o.b0, o.b1⟩ o.s1 (G.m j hj)
theorem gv_move (hw : Int) (n : Nat) (G : Gd n v) (hn : n = 1) (hR : ¬ comK n (fun i => (v i).k) = 0) : GvOk 42 hw n v (comK n (fun i => (v i).k)) := by
  have c := com_ne hR
  rw [c.1]
  subst hn
  exact ⟨_, _, _, _, G.val 0 (by omega), fun W g cap _ _ hv hc => move_of g 1 cap hw (v 0).k (v 0).b (v 0).s W (A1.vs hv (by omega)) (by omega)⟩
theorem gv_outer (n : Nat) (G : Gd n v) (h2 : 2 ≤ n) (h3 : n ≤ 16) (ho : 9 ≤ op ∧ op ≤ 14) (hR : ¬ comK n (fun i => (v i).k) = 0) : GvOk 45 op n v (comK n (fun i => (v i).k)) := by
  have c := com_ne hR
  rw [c.1]
  obtain ⟨l, rfl⟩ : ∃ l, n = l + 1 := ⟨n - 1, by omega⟩
  have le := mxF_le op (v 0).k v l
  have g := G.val (mxF op (v 0).k v l) (by omega)
  have ek := c.2.2 (mxF op (v 0).k v l) (by omega)
  rw [show (v (mxF op (v 0).k v l)).k = (v 0).k from ek] at g
  refine ⟨_, _, _, _, g, fun W g cap _ _ hv hc => ?_⟩
  obtain ⟨cc, rfl⟩ : ∃ c, cap = c + 1 := ⟨cap - 1, by omega⟩
  have := outermost_of g l cc op (v 0).k v W (G.fam (v 0).k c.2.2) hv (by omega) (by omega) (by omega) ho
  rw [show (v (mxF op (v 0).k v l)).k = (v 0).k from ek] at this
  exact this
theorem gv_limit (hw : Int) (n : Nat) (G : Gd n v) (hn : n = 3) (hR : ¬ comK n (fun i => (v i).k) = 0) : GvOk 46 hw n v (comK n (fun i => (v i).k)) := by
  have c := com_ne hR
  rw [c.1]
  subst hn
  have le : lmF (v 0).k v < 3 := by
    have a : lm1 (v 0).k v < 2 := by unfold lm1; split <;> omega
    unfold lmF; split <;> omega
  have g := G.val (lmF (v 0).k v) le
  have ek := c.2.2 (lmF (v 0).k v) le
  rw [show (v (lmF (v 0).k v)).k = (v 0).k from ek] at g
  refine ⟨_, _, _, _, g, fun W g cap _ _ hv hc => ?_⟩
  have := limit_of g cap hw (v 0).k v W (G.fam (v 0).k c.2.2) (A3.vs hv)
  rw [show (v (lmF (v 0).k v)).k = (v 0).k from ek] at this
  exact this
theorem gv_choose (hw : Int) (n : Nat) (G : Gd n v) (h2 : 2 ≤ n) (h3 : n ≤ 16) (hi : 1 ≤ (v 0).k ∧ (v 0).k ≤ 9) (hR : ¬ comK (n - 1) (fun i => (v (1 + i)).k) = 0) : GvOk 48 hw n v (comK (n - 1) (fun i => (v (1 + i)).k)) := by
  have c := com_ne hR
  rw [c.1]
  obtain ⟨l, rfl⟩ : ∃ l, n = l + 1 := ⟨n - 1, by omega⟩
  have o := G.o 0 (by omega)
  obtain ⟨z, zr, _, zw⟩ := whole_any (v 0).k (v 0).b (v 0).s o.b0 o.b1 hi o.s1 (G.m 0 (by omega))
  by_cases q : z < 0 ∨ (l : Int) ≤ z
  · refine ⟨_, _, _, _, gr_fault _ 3 (by decide) (by decide), fun W g cap _ _ hv hc => ?_⟩
    obtain ⟨cc, rfl⟩ : ∃ c, cap = c + 1 := ⟨cap - 1, by omega⟩
    exact choose_no g l cc hw (v 0).k (v 0).b (v 0).s W z (A1.vs hv (by omega)) (by omega) (by omega) zw q
  · obtain ⟨j, rfl⟩ : ∃ j : Nat, z = j := ⟨z.toNat, by omega⟩
    have jl : j < l := by omega
    have g := G.val (j + 1) (by omega)
    have ek := c.2.2 j (by omega)
    simp only [Nat.add_comm 1] at ek ⊢
    rw [show (v (j + 1)).k = (v (0 + 1)).k from ek] at g
    refine ⟨_, _, _, _, g, fun W g cap _ _ hv hc => ?_⟩
    obtain ⟨cc, rfl⟩ : ∃ c, cap = c + 1 := ⟨cap - 1, by omega⟩
    have := choose_yes g l cc hw (v 0).k (v 0).b (v 0).s W j (v (j + 1)).k (v (j + 1)).b (v (j + 1)).s (A1.vs hv (by omega)) (A1'.nx hv (by omega)) (by omega) zw jl
    rw [show (v (j + 1)).k = (v (0 + 1)).k from ek] at this
    exact this
end
end Go.Proofs.YtpaibmganlaaeaaGreatDoor
namespace Go.Proofs.YtpaibmganlaaeaaGreatDoor
set_option linter.unusedVariables false
open Go.RowKit
theorem int_or' {k : Int} (h : intK k = true) : 2 ≤ k ∧ k ≤ 9 := by unfold intK at h; exact of_decide_eq_true h
theorem row_or' {k : Int} (h : rowK k = true) : k = 10 ∨ k = 11 ∨ k = 12 ∨ k = 13 := by unfold rowK at h; have := of_decide_eq_true h; omega
theorem text_may {b : Int} {s : ByteArray} (m : may3 19 b s = true) : s.size ≤ 254 := by unfold may3 at m; simp at m; exact m.2
theorem gd_ex {k : Int} {x : Value} (h : GdV k x) : ∃ rk rb rs fa, x = .tuple #[V rk rb rs, .int .i64 fa] ∧ GdR k rk rb rs fa := h
theorem gr_text (t : ByteArray) (h : t.size ≤ 254) : GdR 19 19 0 t 0 := gr_val _ _ _ (by decide) (by decide) (by unfold maxLen; omega) (by unfold may3; simp [h])
section
variable (v : Nat → Vl) (hw : Int) (n : Nat)
theorem gv_size (G : Gd n v) (hn : n = 1) (hR : ¬ gvK (v 0).k (intK (v 0).k || (v 0).k == 18 || (v 0).k == 14) = 0) : GvOk 44 hw n v (gvK (v 0).k (intK (v 0).k || (v 0).k == 18 || (v 0).k == 14)) := by
  have a := gv_ne hR
  rw [a.2]
  subst hn
  have o := G.o 0 (by omega)
  have m := G.m 0 (by omega)
  have val := G.val 0 (by omega)
  by_cases r : (v 0).k = 18
  · have ab := abs_is (v 0).b.toNat (by have := o.b1; have := o.b0; omega)
    rw [r] at m ⊢
    obtain ⟨rk, rb, rs, fa, e, g⟩ := gd_of_st (st_lreal ((v 0).b.toNat % 9223372036854775808) (by omega)) rfl
    refine ⟨rk, rb, rs, fa, g, fun W g cap _ _ hv hc => ?_⟩
    have A := A1.vs hv (by omega)
    have A' : A1 W g ⟨18, (v 0).b, (v 0).s⟩ := ⟨by rw [← r]; exact A.c0, A.c1, A.c2⟩
    rw [← e]
    exact size_real g 1 cap hw (v 0).b (v 0).s W A' (by omega) o.b0 o.b1 o.s1 m _ ab
  · have k18 : ((v 0).k == 18) = false := by simpa using r
    have z : ∀ w, Calls Tryz.prog 97 #[V (v 0).k (v 0).b (v 0).s] w fun e w' => e = .returned (.bool (decide (num (v 0).k (v 0).b < 0))) ∧ Below w.heap.size w w' := by
      intro w
      have q := a.1
      rw [k18] at q
      simp at q
      rcases q with q | q
      · exact isBelowZero_of (v 0).k (v 0).b (v 0).s w o.b0 o.b1 (int_or' q) o.s1 m
      · rw [q] at m ⊢
        exact isBelowZero_14 (v 0).b (v 0).s w o.b0 o.b1 o.s1 m
    by_cases ng : num (v 0).k (v 0).b < 0
    · have sg' : 2 ≤ (v 0).k ∧ (v 0).k ≤ 5 ∨ (v 0).k = 14 := by
        apply Classical.byContradiction
        intro q
        rw [num_u q] at ng
        have := o.b0
        omega
      obtain ⟨rk, rb, rs, fa, e, g⟩ := neg_gd (v 0).k (v 0).b (v 0).s o.b0 o.b1 ⟨o.k0, o.k1⟩ m sg'
      rw [decide_eq_true ng] at z
      refine ⟨rk, rb, rs, fa, g, fun W g cap _ _ hv hc => size_neg g 1 cap hw (v 0).k (v 0).b (v 0).s W rk rb fa rs (A1.vs hv (by omega)) (by omega) k18 z fun W => ?_⟩
      rw [← e]
      exact Turn_of 15 (v 0).k (v 0).b (v 0).s W o.b0 o.b1 ⟨o.k0, o.k1⟩ o.s1
    · rw [decide_eq_false ng] at z
      exact ⟨_, _, _, _, val, fun W g cap _ _ hv hc => size_pos g 1 cap hw (v 0).k (v 0).b (v 0).s W (A1.vs hv (by omega)) (by omega) k18 z⟩
theorem sh_any (f : Nat) (G : Gd 2 v) (hr : rowK (v 0).k = true) (hi : intK (v 1).k = true) (R : Int) (R0 : 0 ≤ R) (R1 : R < 18446744073709551616)
    (S : ∀ (g cap : Nat) (w : World) (rk rb fa : Int) (rs : ByteArray), (∀ W, Below w.heap.size w W → Calls Tryz.prog 100 #[.slice (some ⟨g, 0, none⟩) 2 cap, .func (.func f) #[] #[]] W fun e w' => e = .returned (.tuple #[V rk rb rs, .int .i64 fa]) ∧ Below W.heap.size W w') → Calls Tryz.prog n #[.int .i64 hw, .slice (some ⟨g, 0, none⟩) 2 cap] w fun e w' => e = .returned (.tuple #[V rk rb rs, .int .i64 fa]) ∧ Below w.heap.size w w')
    (M : ∀ w, Calls Tryz.prog f #[.int .u64 (v 0).b, .int .u64 (wdK (v 0).k), .int .u64 (v 1).b] w fun e w' => e = .returned (.int .u64 R) ∧ w' = w)
    (E : ∀ args w, (callFunc f args).run Tryz.prog w = .ok (.enter f args) w) : GvOk n hw 2 v (v 0).k := by
  have o := G.o 0 (by omega)
  have m := G.m 0 (by omega)
  have o1 := G.o 1 (by omega)
  have m1 := G.m 1 (by omega)
  have rk := row_or' hr
  have ik := int_or' hi
  by_cases ng : num (v 1).k (v 1).b < 0
  · exact ⟨_, _, _, _, gr_fault _ 3 (by decide) (by decide), fun W g cap _ _ hv hc => S g cap W 0 0 3 E0 fun W' hb => moveBits_neg g cap f (v 0).k (v 0).b (v 1).k (v 1).b (v 0).s (v 1).s W' ((A2.vs hv).below hb) o1.b0 o1.b1 ik o1.s1 m1 ng⟩
  · have ar := and_row R (wdK (v 0).k) (wd_pos (v 0).k).2 R0 R1
    have p : 2 ^ wdK (v 0).k ≤ 2 ^ 64 := Nat.pow_le_pow_right (by omega) (wd_pos (v 0).k).2
    exact ⟨_, _, _, _, gr_val (v 0).k _ (v 0).s ⟨o.k0, o.k1⟩ ⟨ar.1, by omega⟩ o.s1 (row_may _ _ _ _ rk m ar.2), fun W g cap _ _ hv hc => S g cap W _ _ 0 _ fun W' hb => moveBits_yes g cap f (v 0).k (v 0).b (v 1).k (v 1).b (v 0).s (v 1).s W' R rk ((A2.vs hv).below hb) o1.b0 o1.b1 ik o1.s1 m1 ng M E⟩
theorem rnd_bd (r : Int) (wd by_ : Nat) (h0 : 0 ≤ r) (h1 : r < 18446744073709551616) : 0 ≤ rndI r wd by_ ∧ rndI r wd by_ < 18446744073709551616 := by
  have a := wrap_u64_bd (r * 2 ^ by_)
  have b0 : 0 ≤ r / 2 ^ (wd - by_) := Int.ediv_nonneg h0 (by exact_mod_cast Nat.zero_le (2 ^ (wd - by_)))
  have b1 : r / 2 ^ (wd - by_) ≤ r := Int.ediv_le_self _ h0
  unfold rndI
  generalize IntKind.u64.wrap (r * 2 ^ by_) = x at *
  generalize r / 2 ^ (wd - by_) = y at *
  obtain ⟨x', rfl⟩ : ∃ a : Nat, x = a := ⟨x.toNat, by omega⟩
  obtain ⟨y', rfl⟩ : ∃ a : Nat, y = a := ⟨y.toNat, by omega⟩
  rw [bits_or_u64_nat x' y' (by omega) (by omega)]
  have := @Nat.or_lt_two_pow x' y' 64 (by omega) (by omega)
  omega
theorem gv_shifts (k : Nat) (hk : k = 23 ∨ k = 24 ∨ k = 25 ∨ k = 26) (G : Gd n v) (hn : n = 2) (hR : ¬ gvK (v 0).k (rowK (v 0).k && intK (v 1).k) = 0) :
    GvOk (if k = 23 then 51 else if k = 24 then 52 else if k = 25 then 53 else 54) hw n v (gvK (v 0).k (rowK (v 0).k && intK (v 1).k)) := by
  have a := gv_ne hR
  rw [a.2]
  subst hn
  have q := a.1
  simp at q
  have o := G.o 0 (by omega)
  have o1 := G.o 1 (by omega)
  have wp := wd_pos (v 0).k
  have lm := Nat.mod_lt (v 1).b.toNat wp.1
  have cb : (((v 1).b.toNat : Nat) : Int) = (v 1).b := by have := o1.b0; omega
  rcases hk with rfl | rfl | rfl | rfl
  · have w_ := wrap_u64_bd ((v 0).b * 2 ^ min (v 1).b.toNat 64)
    exact sh_any v hw _ _ G q.1 q.2 _ w_.1 w_.2 (fun g cap w rk rb fa rs M => shiftLeft_g g cap hw w rk rb fa rs M) (fun w => shl1_of (v 1).b w (v 0).b _ o1.b0 o1.b1) enter_shl
  · have b0 : 0 ≤ (v 0).b / 2 ^ min (v 1).b.toNat 64 := Int.ediv_nonneg o.b0 (by exact_mod_cast Nat.zero_le (2 ^ min (v 1).b.toNat 64))
    have b1 : (v 0).b / 2 ^ min (v 1).b.toNat 64 ≤ (v 0).b := Int.ediv_le_self _ o.b0
    have := o.b1
    exact sh_any v hw _ _ G q.1 q.2 _ b0 (by omega) (fun g cap w rk rb fa rs M => shiftRight_g g cap hw w rk rb fa rs M) (fun w => shr1_of (v 1).b w (v 0).b _ o1.b0 o1.b1) enter_shr
  · have rb := rnd_bd (v 0).b (wdK (v 0).k) ((v 1).b.toNat % wdK (v 0).k) o.b0 o.b1
    have M := fun W => turnLeft1_of (v 0).b (wdK (v 0).k) (v 1).b.toNat W wp.1 wp.2
    rw [cb] at M
    exact sh_any v hw _ _ G q.1 q.2 _ rb.1 rb.2 (fun g cap w rk rb fa rs M => turnLeft_g g cap hw w rk rb fa rs M) M enter_left
  · have rb := rnd_bd (v 0).b (wdK (v 0).k) (wdK (v 0).k - (v 1).b.toNat % wdK (v 0).k) o.b0 o.b1
    have M := fun W => turnRight1_of (v 0).b (wdK (v 0).k) (v 1).b.toNat W wp.1 wp.2
    rw [cb] at M
    exact sh_any v hw _ _ G q.1 q.2 _ rb.1 rb.2 (fun g cap w rk rb fa rs M => turnRight_g g cap hw w rk rb fa rs M) M enter_right
theorem gv_convert (tk : Nat) (ht : 1 ≤ tk ∧ tk ≤ 19) (G : Gd n v) (hn : n = 1) (hR : ¬ gvK tk (cvU tk (v 0).k) = 0) : GvOk 73 tk n v (gvK tk (cvU tk (v 0).k)) := by
  have a := gv_ne hR
  rw [a.2]
  subst hn
  have o := G.o 0 (by omega)
  have m := G.m 0 (by omega)
  have kr := may_rg m
  have q := a.1
  rw [cvU_Tk tk (v 0).k (by omega) kr] at q
  obtain ⟨rk, rb, rs, fa, e, g⟩ := cv_gd tk (v 0).k (v 0).b (v 0).s o.b0 o.b1 (by omega) o.s1 m q
  refine ⟨rk, rb, rs, fa, g, fun W g cap hP _ hv hc => convertS_g g 1 cap (v 0).k (v 0).b (v 0).s W tk rk rb fa rs (A1.vs hv (by omega)) (by omega) (by omega) fun W' hb => ?_⟩
  rw [← e]
  exact ConvertC tk (v 0).k (v 0).b (v 0).s W' o.b0 o.b1 (by omega) ⟨o.k0, o.k1⟩ o.s1 (pow_below hP hb)
theorem gv_trunc (G : Gd n v) (hn : n = 1) (hR : ¬ gvK 5 ((v 0).k == 18) = 0) : GvOk 68 hw n v (gvK 5 ((v 0).k == 18)) := by
  have a := gv_ne hR
  rw [a.2]
  subst hn
  have r : (v 0).k = 18 := by simpa using a.1
  have o := G.o 0 (by omega)
  have m := G.m 0 (by omega)
  rw [r] at m
  have tl := trc_lt (v 0).b.toNat (by have := o.b1; have := o.b0; omega)
  obtain ⟨k', b', s', f', e', hb', hk', hs', hm'⟩ := st_lreal (trc (v 0).b.toNat) tl
  simp at e'
  obtain ⟨⟨rfl, eb, rfl⟩, rfl⟩ := e'
  rw [← eb] at hb' hm'
  obtain ⟨rk, rb, rs, fa, e, g⟩ := cv_gd 5 18 (lrealB (trc (v 0).b.toNat)) E0 hb'.1 hb'.2 (by omega) hE0 (hm' rfl) rfl
  refine ⟨rk, rb, rs, fa, g, fun W g cap hP _ hv hc => ?_⟩
  have A := A1.vs hv (by omega)
  have A' : A1 W g ⟨18, (v 0).b, (v 0).s⟩ := ⟨by rw [← r]; exact A.c0, A.c1, A.c2⟩
  refine truncate_g g 1 cap hw (v 0).b (v 0).s W rk rb fa rs A' (by omega) o.b0 o.b1 o.s1 m fun W' hb => ?_
  rw [← e]
  exact ConvertC 5 18 (lrealB (trc (v 0).b.toNat)) E0 W' hb'.1 hb'.2 (by omega) (by omega) hE0 (pow_below hP hb)
end
end Go.Proofs.YtpaibmganlaaeaaGreatDoor
namespace Go.Proofs.YtpaibmganlaaeaaGreatDoor
set_option linter.unusedVariables false
open Go.RowKit
theorem fit3 (n : Int) (h0 : 0 ≤ n) (h1 : n ≤ 255) : fitOk 3 n = true := by
  have e : n % 18446744073709551616 = n := by omega
  unfold fitOk
  rw [e, num_s (by omega), mayE 3 _ (by decide)]
  have w : wrap64 n = n := by unfold wrap64; omega
  rw [w]
  simp [mayW, sg]
  omega
theorem gr_int3 (n : Int) (h0 : 0 ≤ n) (h1 : n ≤ 255) : GdR 3 3 (n % 18446744073709551616) E0 0 := by
  obtain ⟨rk, rb, rs, fa, e, g⟩ := gd_of_st (st_fit 3 n (by decide) (fit3 n h0 h1)) rfl
  simp at e
  obtain ⟨⟨rfl, rfl, rfl⟩, rfl⟩ := e
  exact g
theorem index_bd (sub : List UInt8) : ∀ l : List UInt8, -1 ≤ Lib.index l sub ∧ Lib.index l sub ≤ l.length
  | [] => by unfold Lib.index; split <;> simp
  | b :: l => by
    have ih := index_bd sub l
    unfold Lib.index
    split
    · simp; omega
    · split
      · simp; omega
      · simp; omega
section
variable (v : Nat → Vl) (hw : Int) (n : Nat)
theorem one_ne {n : Nat} {κ : Nat → Int} (h : oneB n κ = true) : κ 0 = 19 ∧ ∀ i, i < n - 1 → 2 ≤ κ (1 + i) ∧ κ (1 + i) ≤ 9 := by
  unfold oneB at h
  simp only [Bool.and_eq_true] at h
  exact ⟨of_decide_eq_true h.1 0 (by omega), fun i hi => int_or' (of_decide_eq_true h.2 i hi)⟩
theorem two_ne {n : Nat} {κ : Nat → Int} (h : twoB n κ = true) : κ 0 = 19 ∧ κ 1 = 19 ∧ ∀ i, i < n - 2 → 2 ≤ κ (2 + i) ∧ κ (2 + i) ≤ 9 := by
  unfold twoB at h
  simp only [Bool.and_eq_true] at h
  exact ⟨of_decide_eq_true h.1 0 (by omega), of_decide_eq_true h.1 1 (by omega), fun i hi => int_or' (of_decide_eq_true h.2 i hi)⟩
theorem Gd.whole {n : Nat} {v : Nat → Vl} (G : Gd n v) (i : Nat) (hi : i < n) (hk : 2 ≤ (v i).k ∧ (v i).k ≤ 9) : ∃ z : Int, (-9223372036854775808 ≤ z ∧ z ≤ 9223372036854775807) ∧ ∀ w, Calls Tryz.prog 98 #[V (v i).k (v i).b (v i).s] w fun e w' => e = .returned (.int .i64 z) ∧ Below w.heap.size w w' := by
  have o := G.o i hi
  obtain ⟨z, zr, _, zw⟩ := whole_any (v i).k (v i).b (v i).s o.b0 o.b1 (by omega) o.s1 (G.m i hi)
  exact ⟨z, zr, zw⟩
theorem Gd.text {n : Nat} {v : Nat → Vl} (G : Gd n v) (i : Nat) (hi : i < n) (hk : (v i).k = 19) : (v i).s.size ≤ 254 := by
  have m := G.m i hi
  rw [hk] at m
  exact text_may m
theorem gv_len (G : Gd n v) (hn : n = 1) (hR : ¬ gvK 3 (oneB n fun i => (v i).k) = 0) : GvOk 56 hw n v (gvK 3 (oneB n fun i => (v i).k)) := by
  have a := gv_ne hR
  rw [a.2]
  subst hn
  have k0 := (one_ne a.1).1
  have sz := G.text 0 (by omega) k0
  exact ⟨_, _, _, _, gr_int3 (v 0).s.size (by omega) (by omega), fun W g cap _ _ hv hc => length_of g 1 cap (v 0).k (v 0).b (v 0).s W hw (A1.vs hv (by omega)) (by omega) _ sz fun W => Int_yes 3 (v 0).s.size W (by decide) (by decide) (by omega) (fit3 _ (by omega) (by omega))⟩
theorem gv_left (G : Gd n v) (hn : n = 2) (hR : ¬ gvK 19 (oneB n fun i => (v i).k) = 0) : GvOk 57 hw n v (gvK 19 (oneB n fun i => (v i).k)) := by
  have a := gv_ne hR
  rw [a.2]
  subst hn
  have k := one_ne a.1
  have sz := G.text 0 (by omega) k.1
  obtain ⟨z, zr, zw⟩ := G.whole 1 (by omega) (k.2 0 (by omega))
  by_cases ng : z < 0
  · exact ⟨_, _, _, _, gr_fault _ 3 (by decide) (by decide), fun W g cap _ _ hv hc => left_neg g cap hw (v 0).k (v 0).b (v 1).k (v 1).b (v 0).s (v 1).s W z (A2.vs hv) zw ng sz⟩
  · exact ⟨_, _, _, _, gr_text _ (by simp; omega), fun W g cap _ _ hv hc => left_pos g cap hw (v 0).k (v 0).b (v 1).k (v 1).b (v 0).s (v 1).s W z (A2.vs hv) zw (by omega) sz⟩
theorem gv_right (G : Gd n v) (hn : n = 2) (hR : ¬ gvK 19 (oneB n fun i => (v i).k) = 0) : GvOk 58 hw n v (gvK 19 (oneB n fun i => (v i).k)) := by
  have a := gv_ne hR
  rw [a.2]
  subst hn
  have k := one_ne a.1
  have sz := G.text 0 (by omega) k.1
  obtain ⟨z, zr, zw⟩ := G.whole 1 (by omega) (k.2 0 (by omega))
  by_cases ng : z < 0
  · exact ⟨_, _, _, _, gr_fault _ 3 (by decide) (by decide), fun W g cap _ _ hv hc => right_neg g cap hw (v 0).k (v 0).b (v 1).k (v 1).b (v 0).s (v 1).s W z (A2.vs hv) zw ng sz⟩
  · have e : wrap64 (((v 0).s.size : Int) - min z ((v 0).s.size : Int)) = ((v 0).s.size : Int) - min z ((v 0).s.size : Int) := by unfold wrap64; omega
    exact ⟨_, _, _, _, gr_text _ (by simp; omega), fun W g cap _ _ hv hc => right_pos g cap hw (v 0).k (v 0).b (v 1).k (v 1).b (v 0).s (v 1).s W z (A2.vs hv) zw (by omega) _ e (by omega) (by omega) sz⟩
theorem gv_mid (G : Gd n v) (hn : n = 3) (hR : ¬ gvK 19 (oneB n fun i => (v i).k) = 0) : GvOk 59 hw n v (gvK 19 (oneB n fun i => (v i).k)) := by
  have a := gv_ne hR
  rw [a.2]
  subst hn
  have k := one_ne a.1
  have sz := G.text 0 (by omega) k.1
  obtain ⟨z, zr, zw⟩ := G.whole 1 (by omega) (k.2 0 (by omega))
  obtain ⟨p, pr, pw⟩ := G.whole 2 (by omega) (k.2 1 (by omega))
  by_cases ng : z < 0 ∨ p < 1
  · exact ⟨_, _, _, _, gr_fault _ 3 (by decide) (by decide), fun W g cap _ _ hv hc => middle_no g cap hw (v 0).k (v 0).b (v 1).k (v 1).b (v 2).k (v 2).b (v 0).s (v 1).s (v 2).s W (A3.vs hv) fun w => piece_no (v 1).k (v 1).b (v 2).k (v 2).b (v 0).s (v 1).s (v 2).s w z p zw pw ng⟩
  · exact ⟨_, _, _, _, gr_text _ (by simp; omega), fun W g cap _ _ hv hc => middle_yes g cap hw (v 0).k (v 0).b (v 1).k (v 1).b (v 2).k (v 2).b (v 0).s (v 1).s (v 2).s W (A3.vs hv) (min (p - 1) ((v 0).s.size : Int)) (min z (((v 0).s.size : Int) - min (p - 1) ((v 0).s.size : Int))) (fun w => piece_yes (v 1).k (v 1).b (v 2).k (v 2).b (v 0).s (v 1).s (v 2).s w z p _ _ zw pw (by omega) (by omega) pr.2 rfl (by omega) (by omega) rfl (by omega) (by omega) (by omega)) (by omega) (by omega) (by omega) sz⟩
theorem gv_del (G : Gd n v) (hn : n = 3) (hR : ¬ gvK 19 (oneB n fun i => (v i).k) = 0) : GvOk 64 hw n v (gvK 19 (oneB n fun i => (v i).k)) := by
  have a := gv_ne hR
  rw [a.2]
  subst hn
  have k := one_ne a.1
  have sz := G.text 0 (by omega) k.1
  obtain ⟨z, zr, zw⟩ := G.whole 1 (by omega) (k.2 0 (by omega))
  obtain ⟨p, pr, pw⟩ := G.whole 2 (by omega) (k.2 1 (by omega))
  by_cases ng : z < 0 ∨ p < 1
  · exact ⟨_, _, _, _, gr_fault _ 3 (by decide) (by decide), fun W g cap _ _ hv hc => remove_no g cap hw (v 0).k (v 0).b (v 1).k (v 1).b (v 2).k (v 2).b (v 0).s (v 1).s (v 2).s W (A3.vs hv) fun w => piece_no (v 1).k (v 1).b (v 2).k (v 2).b (v 0).s (v 1).s (v 2).s w z p zw pw ng⟩
  · exact ⟨_, _, _, _, gr_text _ (by simp [ByteArray.size_append]; omega), fun W g cap _ _ hv hc => remove_yes g cap hw (v 0).k (v 0).b (v 1).k (v 1).b (v 2).k (v 2).b (v 0).s (v 1).s (v 2).s W (A3.vs hv) (min (p - 1) ((v 0).s.size : Int)) (min z (((v 0).s.size : Int) - min (p - 1) ((v 0).s.size : Int))) (fun w => piece_yes (v 1).k (v 1).b (v 2).k (v 2).b (v 0).s (v 1).s (v 2).s w z p _ _ zw pw (by omega) (by omega) pr.2 rfl (by omega) (by omega) rfl (by omega) (by omega) (by omega)) (by omega) (by omega) (by omega) sz⟩
theorem gv_ins (G : Gd n v) (hn : n = 3) (hR : ¬ gvK 19 (twoB n fun i => (v i).k) = 0) : GvOk 63 hw n v (gvK 19 (twoB n fun i => (v i).k)) := by
  have a := gv_ne hR
  rw [a.2]
  subst hn
  have k := two_ne a.1
  have sz := G.text 0 (by omega) k.1
  have sr := G.text 1 (by omega) k.2.1
  obtain ⟨p, pr, pw⟩ := G.whole 2 (by omega) (k.2.2 0 (by omega))
  by_cases ng : p < 0 ∨ ((v 0).s.size : Int) < p
  · exact ⟨_, _, _, _, gr_fault _ 3 (by decide) (by decide), fun W g cap _ _ hv hc => insert_no g cap hw (v 0).k (v 0).b (v 1).k (v 1).b (v 2).k (v 2).b (v 0).s (v 1).s (v 2).s W p (A3.vs hv) pw ng⟩
  · by_cases big : (v 0).s.size + (v 1).s.size ≤ 254
    · exact ⟨_, _, _, _, gr_text _ (by simp [ByteArray.size_append]; omega), fun W g cap _ _ hv hc => insert_yes g cap hw (v 0).k (v 0).b (v 1).k (v 1).b (v 2).k (v 2).b (v 0).s (v 1).s (v 2).s W p (A3.vs hv) pw (by omega) (by omega) sz sr big⟩
    · exact ⟨_, _, _, _, gr_fault _ 5 (by decide) (by decide), fun W g cap _ _ hv hc => insert_big g cap hw (v 0).k (v 0).b (v 1).k (v 1).b (v 2).k (v 2).b (v 0).s (v 1).s (v 2).s W p (A3.vs hv) pw (by omega) (by omega) sz sr big⟩
theorem gv_find (G : Gd n v) (hn : n = 2) (hR : ¬ gvK 3 (twoB n fun i => (v i).k) = 0) : GvOk 66 hw n v (gvK 3 (twoB n fun i => (v i).k)) := by
  have a := gv_ne hR
  rw [a.2]
  subst hn
  have k := two_ne a.1
  have sz := G.text 0 (by omega) k.1
  have ib := index_bd (v 1).s.data.toList (v 0).s.data.toList
  have el : (v 0).s.data.toList.length = (v 0).s.size := by rw [Array.length_toList]; rfl
  rw [el] at ib
  exact ⟨_, _, _, _, gr_int3 (Lib.index (v 0).s.data.toList (v 1).s.data.toList + 1) (by omega) (by omega), fun W g cap _ hm hv hc => find_g g cap hw (v 0).k (v 0).b (v 1).k (v 1).b (v 0).s (v 1).s W _ (A2.vs hv) hm sz _ rfl (by omega) (by omega) fun W => Int_yes 3 _ W (by decide) (by decide) (by omega) (fit3 _ (by omega) (by omega))⟩
theorem gv_concat (G : Gd n v) (h1 : 1 ≤ n) (h2 : n ≤ 16) (hR : ¬ gvK 19 (allT n fun i => (v i).k) = 0) : GvOk 61 hw n v (gvK 19 (allT n fun i => (v i).k)) := by
  have a := gv_ne hR
  rw [a.2]
  have k : ∀ i, i < n → (v i).k = 19 := of_decide_eq_true a.1
  have sz : ∀ i, i < n → (v i).s.size ≤ 254 := fun i hi => G.text i hi (k i hi)
  have len : ∀ m, m ≤ n → (ctL v m).length ≤ m * 254 := by
    intro m
    induction m with
    | zero => intro _; simp [ctL]
    | succ m ih => intro h; exact ct_len v m (ih (by omega)) (sz m (by omega))
  have l := len n (Nat.le_refl _)
  have es : (⟨(ctL v n).toArray⟩ : ByteArray).size = (ctL v n).length := by show (ctL v n).toArray.size = _; simp
  by_cases big : (⟨(ctL v n).toArray⟩ : ByteArray).size ≤ 254
  · exact ⟨_, _, _, _, gr_text _ big, fun W g cap _ _ hv hc => concat_of ⟨g, 0, none⟩ cap hw n v W hv (by omega) sz _ _ _ _ fun W => Text_yes _ W big⟩
  · exact ⟨_, _, _, _, gr_fault _ 5 (by decide) (by decide), fun W g cap _ _ hv hc => concat_of ⟨g, 0, none⟩ cap hw n v W hv (by omega) sz _ _ _ _ fun W => Text_no _ W big (by rw [es]; unfold maxLen; omega)⟩
theorem gv_repl (G : Gd n v) (hn : n = 4) (hR : ¬ gvK 19 (twoB n fun i => (v i).k) = 0) : GvOk 65 hw n v (gvK 19 (twoB n fun i => (v i).k)) := by
  have a := gv_ne hR
  rw [a.2]
  subst hn
  have k := two_ne a.1
  have sz := G.text 0 (by omega) k.1
  have sr := G.text 1 (by omega) k.2.1
  obtain ⟨z, zr, zw⟩ := G.whole 2 (by omega) (k.2.2 0 (by omega))
  obtain ⟨p, pr, pw⟩ := G.whole 3 (by omega) (k.2.2 1 (by omega))
  by_cases ng : z < 0 ∨ p < 1
  · exact ⟨_, _, _, _, gr_fault _ 3 (by decide) (by decide), fun W g cap _ _ hv hc => replace_no g cap hw (v 0).k (v 0).b (v 1).k (v 1).b (v 2).k (v 2).b (v 3).k (v 3).b (v 0).s (v 1).s (v 2).s (v 3).s W (A4.vs hv) fun w => piece_no (v 2).k (v 2).b (v 3).k (v 3).b (v 0).s (v 2).s (v 3).s w z p zw pw ng⟩
  · have PC := fun w => piece_yes (v 2).k (v 2).b (v 3).k (v 3).b (v 0).s (v 2).s (v 3).s w z p (min (p - 1) ((v 0).s.size : Int)) (min z (((v 0).s.size : Int) - min (p - 1) ((v 0).s.size : Int))) zw pw (by omega) (by omega) pr.2 rfl (by omega) (by omega) rfl (by omega) (by omega) (by omega)
    by_cases ou : ((v 0).s.size : Int) < p - 1
    · exact ⟨_, _, _, _, gr_fault _ 3 (by decide) (by decide), fun W g cap _ _ hv hc => replace_out g cap hw (v 0).k (v 0).b (v 1).k (v 1).b (v 2).k (v 2).b (v 3).k (v 3).b (v 0).s (v 1).s (v 2).s (v 3).s W (A4.vs hv) _ _ p ou pr.2 pw PC⟩
    · have fm : min (p - 1) ((v 0).s.size : Int) + min z (((v 0).s.size : Int) - min (p - 1) ((v 0).s.size : Int)) ≤ ((v 0).s.size : Int) := by omega
      have f0 : 0 ≤ min (p - 1) ((v 0).s.size : Int) := by omega
      have m0 : 0 ≤ min z (((v 0).s.size : Int) - min (p - 1) ((v 0).s.size : Int)) := by omega
      generalize min z (((v 0).s.size : Int) - min (p - 1) ((v 0).s.size : Int)) = m at *
      generalize min (p - 1) ((v 0).s.size : Int) = f at *
      by_cases big : ((v 0).s.extract 0 f.toNat ++ (v 1).s ++ (v 0).s.extract (f + m).toNat (v 0).s.size).size ≤ 254
      · exact ⟨_, _, _, _, gr_text _ big, fun W g cap _ _ hv hc => replace_yes g cap hw (v 0).k (v 0).b (v 1).k (v 1).b (v 2).k (v 2).b (v 3).k (v 3).b (v 0).s (v 1).s (v 2).s (v 3).s W (A4.vs hv) f m p ou pr.2 (by omega) pw f0 m0 fm sz sr big PC⟩
      · exact ⟨_, _, _, _, gr_fault _ 5 (by decide) (by decide), fun W g cap _ _ hv hc => replace_big g cap hw (v 0).k (v 0).b (v 1).k (v 1).b (v 2).k (v 2).b (v 3).k (v 3).b (v 0).s (v 1).s (v 2).s (v 3).s W (A4.vs hv) f m p ou pr.2 (by omega) pw f0 m0 fm sz sr big PC⟩
end
end Go.Proofs.YtpaibmganlaaeaaGreatDoor
namespace Go.Proofs.YtpaibmganlaaeaaGreatDoor
set_option linter.unusedVariables false
open Go.RowKit
/-- A function's giving part, by its number. -/
def GvAt (f : Fu) (n : Nat) (v : Nat → Vl) (R : Int) : Prop := ∃ gv, f.gv = some gv ∧ (∀ args w, (callFunc gv args).run Tryz.prog w = .ok (.enter gv args) w) ∧ GvOk gv f.hw n v R
set_option maxRecDepth 20000 in
set_option maxHeartbeats 2000000 in
theorem gv_T (k : Nat) (h1 : 1 ≤ k) (h2 : k < 37) (n : Nat) (v : Nat → Vl) (G : Gd n v) (hc : ctB (fuT k).nx (pmT k).1.length n = true) (hR : ¬ tkT k n (fun i => (v i).k) = 0) : GvAt (fuT k) n v (tkT k n (fun i => (v i).k)) := by
  have P := pm_T k h2
  rw [P.nx] at hc
  have cn := ct_n hc
  match k, h1, h2 with
  | 1, _, _ =>
    have cm : 2 ≤ n ∧ (n = 2 ∨ n ≤ 16) := cn
    exact ⟨_, rfl, fun _ _ => rfl, gv_reckon 1 v n G (by omega) (by omega) hR⟩
  | 2, _, _ =>
    have cm : n = 2 := one_n hc
    exact ⟨_, rfl, fun _ _ => rfl, gv_reckon 2 v n G (by omega) (by omega) hR⟩
  | 3, _, _ =>
    have cm : 2 ≤ n ∧ (n = 2 ∨ n ≤ 16) := cn
    exact ⟨_, rfl, fun _ _ => rfl, gv_reckon 3 v n G (by omega) (by omega) hR⟩
  | 4, _, _ =>
    have cm : n = 2 := one_n hc
    exact ⟨_, rfl, fun _ _ => rfl, gv_reckon 4 v n G (by omega) (by omega) hR⟩
  | 5, _, _ =>
    have cm : n = 2 := one_n hc
    exact ⟨_, rfl, fun _ _ => rfl, gv_reckon 5 v n G (by omega) (by omega) hR⟩
  | 6, _, _ =>
    have cm : 2 ≤ n ∧ (n = 2 ∨ n ≤ 16) := cn
    exact ⟨_, rfl, fun _ _ => rfl, gv_reckon 6 v n G (by omega) (by omega) hR⟩
  | 7, _, _ =>
    have cm : 2 ≤ n ∧ (n = 2 ∨ n ≤ 16) := cn
    exact ⟨_, rfl, fun _ _ => rfl, gv_reckon 7 v n G (by omega) (by omega) hR⟩
  | 8, _, _ =>
    have cm : 2 ≤ n ∧ (n = 2 ∨ n ≤ 16) := cn
    exact ⟨_, rfl, fun _ _ => rfl, gv_reckon 8 v n G (by omega) (by omega) hR⟩
  | 9, _, _ =>
    have cm : n = 1 := one_n hc
    exact ⟨_, rfl, fun _ _ => rfl, gv_turn v n G cm hR⟩
  | 10, _, _ =>
    have cm : 2 ≤ n ∧ (n = 2 ∨ n ≤ 16) := cn
    exact ⟨_, rfl, fun _ _ => rfl, gv_compare 9 v n G (by omega) (by omega) (by decide) hR⟩
  | 11, _, _ =>
    have cm : n = 2 := one_n hc
    exact ⟨_, rfl, fun _ _ => rfl, gv_compare 10 v n G (by omega) (by omega) (by decide) hR⟩
  | 12, _, _ =>
    have cm : 2 ≤ n ∧ (n = 2 ∨ n ≤ 16) := cn
    exact ⟨_, rfl, fun _ _ => rfl, gv_compare 11 v n G (by omega) (by omega) (by decide) hR⟩
  | 13, _, _ =>
    have cm : 2 ≤ n ∧ (n = 2 ∨ n ≤ 16) := cn
    exact ⟨_, rfl, fun _ _ => rfl, gv_compare 12 v n G (by omega) (by omega) (by decide) hR⟩
  | 14, _, _ =>
    have cm : 2 ≤ n ∧ (n = 2 ∨ n ≤ 16) := cn
    exact ⟨_, rfl, fun _ _ => rfl, gv_compare 13 v n G (by omega) (by omega) (by decide) hR⟩
  | 15, _, _ =>
    have cm : 2 ≤ n ∧ (n = 2 ∨ n ≤ 16) := cn
    exact ⟨_, rfl, fun _ _ => rfl, gv_compare 14 v n G (by omega) (by omega) (by decide) hR⟩
  | 16, _, _ =>
    have cm : n = 1 := one_n hc
    exact ⟨_, rfl, fun _ _ => rfl, gv_move v _ n G cm hR⟩
  | 17, _, _ =>
    have cm : n = 1 := one_n hc
    exact ⟨_, rfl, fun _ _ => rfl, gv_size v _ n G cm hR⟩
  | 18, _, _ =>
    have cm : 2 ≤ n ∧ (n = 2 ∨ n ≤ 16) := cn
    exact ⟨_, rfl, fun _ _ => rfl, gv_outer 11 v n G (by omega) (by omega) (by decide) hR⟩
  | 19, _, _ =>
    have cm : 2 ≤ n ∧ (n = 2 ∨ n ≤ 16) := cn
    exact ⟨_, rfl, fun _ _ => rfl, gv_outer 13 v n G (by omega) (by omega) (by decide) hR⟩
  | 20, _, _ =>
    have cm : n = 3 := one_n hc
    exact ⟨_, rfl, fun _ _ => rfl, gv_limit v _ n G cm hR⟩
  | 21, _, _ =>
    have cm : n = 3 := one_n hc
    have q : (v 0).k = 1 := by simpa using (gv_ne hR).1
    have e := (gv_ne hR).2
    refine ⟨_, rfl, fun _ _ => rfl, ?_⟩
    show GvOk _ _ n v (gvK _ _)
    rw [e]
    exact gv_choose v _ n G (by omega) (by omega) (by omega) (by rw [← e]; exact hR)
  | 22, _, _ =>
    have cm : 2 ≤ n ∧ (n = 2 ∨ n ≤ 16) := cn
    have q : 2 ≤ (v 0).k ∧ (v 0).k ≤ 9 := int_or' (gv_ne hR).1
    have e := (gv_ne hR).2
    refine ⟨_, rfl, fun _ _ => rfl, ?_⟩
    show GvOk _ _ n v (gvK _ _)
    rw [e]
    exact gv_choose v _ n G (by omega) (by omega) (by omega) (by rw [← e]; exact hR)
  | 23, _, _ =>
    have cm : n = 2 := one_n hc
    exact ⟨_, rfl, fun _ _ => rfl, gv_shifts v _ n 23 (by decide) G cm hR⟩
  | 24, _, _ =>
    have cm : n = 2 := one_n hc
    exact ⟨_, rfl, fun _ _ => rfl, gv_shifts v _ n 24 (by decide) G cm hR⟩
  | 25, _, _ =>
    have cm : n = 2 := one_n hc
    exact ⟨_, rfl, fun _ _ => rfl, gv_shifts v _ n 25 (by decide) G cm hR⟩
  | 26, _, _ =>
    have cm : n = 2 := one_n hc
    exact ⟨_, rfl, fun _ _ => rfl, gv_shifts v _ n 26 (by decide) G cm hR⟩
  | 27, _, _ =>
    have cm : n = 1 := one_n hc
    exact ⟨_, rfl, fun _ _ => rfl, gv_len v _ n G cm hR⟩
  | 28, _, _ =>
    have cm : n = 2 := one_n hc
    exact ⟨_, rfl, fun _ _ => rfl, gv_left v _ n G cm hR⟩
  | 29, _, _ =>
    have cm : n = 2 := one_n hc
    exact ⟨_, rfl, fun _ _ => rfl, gv_right v _ n G cm hR⟩
  | 30, _, _ =>
    have cm : n = 3 := one_n hc
    exact ⟨_, rfl, fun _ _ => rfl, gv_mid v _ n G cm hR⟩
  | 31, _, _ =>
    have cm : 2 ≤ n ∧ (n = 2 ∨ n ≤ 16) := cn
    exact ⟨_, rfl, fun _ _ => rfl, gv_concat v _ n G (by omega) (by omega) hR⟩
  | 32, _, _ =>
    have cm : n = 3 := one_n hc
    exact ⟨_, rfl, fun _ _ => rfl, gv_ins v _ n G cm hR⟩
  | 33, _, _ =>
    have cm : n = 3 := one_n hc
    exact ⟨_, rfl, fun _ _ => rfl, gv_del v _ n G cm hR⟩
  | 34, _, _ =>
    have cm : n = 4 := one_n hc
    exact ⟨_, rfl, fun _ _ => rfl, gv_repl v _ n G cm hR⟩
  | 35, _, _ =>
    have cm : n = 2 := one_n hc
    exact ⟨_, rfl, fun _ _ => rfl, gv_find v _ n G cm hR⟩
  | 36, _, _ =>
    have cm : n = 1 := one_n hc
    exact ⟨_, rfl, fun _ _ => rfl, gv_trunc v _ n G cm hR⟩
set_option maxRecDepth 20000 in
theorem gv_A (z : Int) (hz : 1 ≤ z ∧ z ≤ 36 ∨ 65 ≤ z ∧ z ≤ 83) (n : Nat) (v : Nat → Vl) (G : Gd n v) (hR : ¬ oA z n (fun i => (v i).k) = 0) : GvAt (fuA z) n v (oA z n (fun i => (v i).k)) := by
  unfold oA at hR ⊢
  by_cases c : ctA z n = true
  · rw [if_pos c] at hR ⊢
    unfold ctA at c
    unfold tkA at hR ⊢
    by_cases t : 1 ≤ z ∧ z ≤ 36
    · rw [if_pos t] at hR ⊢
      unfold fuA pmA at c
      rw [if_pos t, if_pos t] at c
      unfold fuA
      rw [if_pos t]
      exact gv_T z.toNat (by omega) (by omega) n v G c hR
    · rw [if_neg t] at hR ⊢
      have t2 : 65 ≤ z ∧ z ≤ 83 := by omega
      unfold fuA pmA at c
      rw [if_neg t, if_pos t2, if_neg t, if_pos t2] at c
      have cm : n = 1 := one_n c
      unfold fuA
      rw [if_neg t, if_pos t2]
      obtain ⟨t, ht⟩ : ∃ t : Nat, z - 64 = t := ⟨(z - 64).toNat, by omega⟩
      rw [ht] at hR ⊢
      rw [show ((t : Int)).toNat = t by omega]
      exact ⟨73, rfl, fun _ _ => rfl, gv_convert v n t (by omega) G cm hR⟩
  · rw [if_neg c] at hR
    exact absurd rfl hR
end Go.Proofs.YtpaibmganlaaeaaGreatDoor
namespace Go.Proofs.YtpaibmganlaaeaaGreatDoor
set_option linter.unusedVariables false
open Go.RowKit
section
variable (K : Int) (nm fm : ByteArray) (nx hw : Int) (tk gv : Nat) (a : Addr) (n cap : Nat) (v : Nat → Vl) (w : World)
set_option maxHeartbeats 4000000 in
theorem CallV_yes (hU : ∀ W, Below w.heap.size w W → Calls Tryz.prog 11 #[.int .i64 K] W fun e w' => e = .returned (FV ⟨nm, fm, nx, hw, some tk, some gv⟩) ∧ Below W.heap.size W w')
    (hv : VsAt w a n v) (ho : ∀ i, i < n → VlOk (v i)) (hn : n < 1000000) (hall : ∀ i, i < n → may3 (v i).k (v i).b (v i).s = true) (h0 : 0 < n) (R rk rb fa : Int) (rs : ByteArray) (hR : (R == 0) = false)
    (hO : ∀ W g c, Below w.heap.size w W → KsAt W ⟨g, 0, none⟩ n (fun i => (v i).k) → n ≤ c → Calls Tryz.prog 12 #[FV ⟨nm, fm, nx, hw, some tk, some gv⟩, .slice (some ⟨g, 0, none⟩) n c] W fun e w' => e = .returned (.int .u8 R) ∧ Below W.heap.size W w')
    (hG : ∀ W, Below w.heap.size w W → Calls Tryz.prog gv #[.int .i64 hw, .slice (some a) n cap] W fun e w' => e = .returned (.tuple #[V rk rb rs, .int .i64 fa]) ∧ Below W.heap.size W w')
    (hC : ∀ args w, (callFunc gv args).run Tryz.prog w = .ok (.enter gv args) w) :
    Calls Tryz.prog 7 #[.int .i64 K, .slice (some a) n cap] w fun e w' => e = .returned (.tuple #[V rk rb rs, .int .i64 fa]) ∧ Below w.heap.size w w' := by
  have HU : Hid _ := hU
  have HV : Hid (VsAt w a n v) := hv
  have HO : Hid (∀ i, i < n → VlOk (v i)) := ho
  have HM : Hid _ := hall
  have HC : Hid _ := hO
  have HG : Hid _ := hG
  clear hU hv ho hall hO hG
  have I : Hid (∃ i, Tryz.prog.info? 24 = some i ∧ i.zero = some (.int .u8 0) ∧ i.size = 1 ∧ i.bytes = 1) := by
    obtain ⟨i, hi, hz⟩ := Option.map_eq_some_iff.1 (show (Tryz.prog.info? 24).map (fun i => (i.zero, i.size, i.bytes)) = some (some (.int .u8 0), 1, 1) by kernel_rfl)
    simp only [Prod.mk.injEq] at hz
    exact ⟨i, hi, hz.1, hz.2.1, hz.2.2⟩
  go_enter Tryz.func7, Tryz.ntmps7
  go_wp2_with (first | (go_at_call 11; refine (HU.out _ ((Below.refl _ _).alloc (Nat.le_refl _) _)).mono ?_; rintro e w1 ⟨rfl, hb⟩; have HB : Hid _ := hb; clear hb) | (refine wpList_store_row rfl 42 _ _ rfl w1.heap.size _ rfl rfl _ _ (heap_alloc_last w1 _) fun_info rfl (by kernel_rfl) ?_; rw [World.setRow_alloc_new]))
  have z1 : w.heap.size < w1.heap.size := by have := HB.out.size; simp at this; omega
  have RB1 : Hid (VB w1 w.heap.size 0 0 E0) := VB.below (w := w.alloc (.cells #[.int .u8 0, .int .u64 0, .string ⟨#[]⟩] 27)) ⟨by simp, by simp, by simp, by simp, by simp, by simp⟩ HB.out
  have gr : Hid (Below w1.heap.size w1 (w1.alloc (.cells #[.string nm, .string fm, .int .i64 nx, .int .i64 hw, FO (some tk), FO (some gv)] 42))) := (Below.refl _ _).alloc (Nat.le_refl _) _
  have B1 : Hid (Below w.heap.size w w1) := ((Below.refl _ _).alloc (Nat.le_refl _) _).trans (HB.out.mono (by simp))
  have B2 : Hid (Below w.heap.size w (w1.alloc (.cells #[.string nm, .string fm, .int .i64 nx, .int .i64 hw, FO (some tk), FO (some gv)] 42))) := B1.out.trans (gr.out.mono B1.out.size)
  have RB : Hid (VB (w1.alloc (.cells #[.string nm, .string fm, .int .i64 nx, .int .i64 hw, FO (some tk), FO (some gv)] 42)) w.heap.size 0 0 E0) := RB1.out.below gr.out
  have FX : Hid (FuAt (w1.alloc (.cells #[.string nm, .string fm, .int .i64 nx, .int .i64 hw, FO (some tk), FO (some gv)] 42)) w1.heap.size 0 ⟨nm, fm, nx, hw, some tk, some gv⟩) := ⟨by simp, by simp, by simp, by simp, by simp, by simp⟩
  generalize (w1.alloc (.cells #[.string nm, .string fm, .int .i64 nx, .int .i64 hw, FO (some tk), FO (some gv)] 42)) = w2 at *
  clear gr RB1 HB HU
  have z2 : w.heap.size < w2.heap.size := block_lt_of_cell RB.out.c0
  go_loopw [7, 14] (fun x i wr => ∃ k : Nat, k ≤ n ∧ i = .int .i64 k ∧ wr.ownsRow w2.heap.size 24 1 x k (ksL k fun i => (v i).k) ∧ Below w2.heap.size w2 wr) (fun _ i _ => n - (intOf i).toNat)
  case atStart => exact ⟨0, Nat.zero_le _, rfl, ⟨rfl, .inl ⟨rfl, rfl⟩⟩, Below.refl _ _⟩
  case round =>
    obtain ⟨k, hk, rfl, hown, hb⟩ := hrel
    have HB : Hid (Below w2.heap.size w2 wr) := hb
    have HR : Hid (wr.ownsRow w2.heap.size 24 1 _ k (ksL k fun i => (v i).k)) := hown
    have Bw : Hid (Below w.heap.size w wr) := B2.out.trans (hb.mono B2.out.size)
    have zr := hb.size
    by_cases hlt : k < n
    · have M : Hid (may3 (v k).k (v k).b (v k).s = true) := HM.out k hlt
      have O : Hid _ := HO.out k hlt
      obtain ⟨d0, d1, d2⟩ := HV.out.below Bw.out k hlt
      clear hown hb
      go_wp2_with (first | (go_at_call 15; refine (May_is _ _ _ _ true O.out.b0 O.out.b1 ⟨O.out.k0, O.out.k1⟩ O.out.s1 M.out).mono ?_; rintro e w5 ⟨rfl, hb5⟩; obtain ⟨q5, f5⟩ := bcell hb5; have s5 := hb5.size; (try simp at s5); have l5 : wr.heap.size < w5.heap.size := (by omega); have HB5 : Hid (Below wr.heap.size wr w5) := ((Below.refl _ _).alloc (Nat.le_refl _) _).trans (hb5.mono (by simp)); have HO5 : Hid (w5.ownsRow w2.heap.size 24 1 _ k (ksL k fun i => (v i).k)) := ownsRow_below HR.out HB5.out; clear hb5) | (at_builtin; obtain ⟨i, hi, hz, hs, hy⟩ := I.out; refine wpList_append_own _ rfl _ _ 23 rfl w2.heap.size 24 i _ 1 1 Tryz.underlying23 hi hz hs hy rfl (by decide) _ k _ rfl (ownsRow_below HO5.out ((Below.refl _ _).alloc (Nat.le_refl _) _)) ⟨w5.heap.size, 0, none⟩ 1 1 [.int .u8 (v k).k] rfl rfl (last_src w5 _ _) (by intro u hu; simp at hu; subst hu; rfl) (by simp [maxLen]; omega) (by omega) (by simp; omega) ?_; intro v' w' k1 k2 k3; have H1 : Hid (w'.ownsRow w2.heap.size 24 1 v' (k + 1) (ksL (k + 1) fun i => (v i).k)) := (by rw [ksL_succ]; exact k1); have H2 : Hid _ := k2; clear k1 k2 k3 hi hz hs hy))
      have SZ : Hid (w2.heap.size ≤ w5.heap.size) := Nat.le_trans HB.out.size HB5.out.size
      exact ⟨⟨k + 1, by omega, by go_num, H1.out, ((HB.out.trans (HB5.out.mono HB.out.size)).alloc SZ.out _).grown H2.out (by have := SZ.out; simp; omega) (fun g e => ownB HO5.out e)⟩, by simp [intOf]; omega⟩
    · obtain rfl : k = n := by omega
      obtain ⟨g, c, rfl, hg, hks, hcap⟩ := own_kinds HR.out h0
      have HCP : Hid (k ≤ c) := hcap
      clear hcap
      have KS : Hid (KsAt wr ⟨g, 0, none⟩ k fun i => (v i).k) := hks
      have FB : Hid (FuAt wr w1.heap.size 0 ⟨nm, fm, nx, hw, some tk, some gv⟩) := FX.out.below HB.out
      obtain ⟨x0, x1, x2, x3, x4, x5⟩ := FB.out
      simp only [Nat.zero_add, FO] at x0 x1 x2 x3 x4 x5
      clear hown hb hks hg
      go_wp2_with (first | (go_at_call 12; refine (HC.out _ g c Bw.out KS.out HCP.out).mono ?_; rintro e w6 ⟨rfl, hb6⟩; have HB6 : Hid (Below wr.heap.size wr w6) := hb6; obtain ⟨y0, y1, y2, y3, y4, y5⟩ := FB.out.below HB6.out; simp only [Nat.zero_add, FO] at y0 y1 y2 y3 y4 y5; clear hb6))
      have BB : Hid (Below w.heap.size w w6) := Bw.out.trans (HB6.out.mono Bw.out.size)
      refine (HG.out _ BB.out).mono ?_
      rintro e w7 ⟨rfl, hb7⟩
      have HB7 : Hid (Below w6.heap.size w6 w7) := hb7
      obtain ⟨r0, r1, r2, r3, r4, r5⟩ := ((RB.out.below HB.out).below HB6.out).below hb7
      clear hb7 y0 y1 y2 y3 y4 y5 x0 x1 x2 x3 x4 x5
      go_wp2
      exact bodyPost_ret (v := .tuple #[V rk rb rs, .int .i64 fa]) (by simp [results, Tryz.results7, go_sem, r0, r1, r2]) rfl ⟨rfl, (((BB.out.trans (HB7.out.mono BB.out.size)).setCell (by simp) _).setCell (by simp) _).setCell (by simp) _⟩
end
/-- The cells of values, one behind the other. -/
def flV (n : Nat) (v : Nat → Vl) : List Value := (List.range n).flatMap fun i => [.int .u8 (v i).k, .int .u64 (v i).b, .string (v i).s]
theorem flV_succ (n : Nat) (v : Nat → Vl) : flV (n + 1) v = flV n v ++ [.int .u8 (v n).k, .int .u64 (v n).b, .string (v n).s] := by
  unfold flV; rw [List.range_succ, List.flatMap_append]; simp
theorem flV_len (n : Nat) (v : Nat → Vl) : (flV n v).length = n * 3 := by
  induction n with
  | zero => rfl
  | succ n ih => rw [flV_succ, List.length_append, ih]; simp; omega
theorem flV_at (n : Nat) (v : Nat → Vl) (i : Nat) (hi : i < n) : (flV n v)[i * 3]? = some (.int .u8 (v i).k) ∧ (flV n v)[i * 3 + 1]? = some (.int .u64 (v i).b) ∧ (flV n v)[i * 3 + 2]? = some (.string (v i).s) := by
  induction n with
  | zero => omega
  | succ n ih =>
    have l := flV_len n v
    rw [flV_succ]
    by_cases h : i < n
    · obtain ⟨a, b, c⟩ := ih h
      exact ⟨by rw [List.getElem?_append_left (by omega)]; exact a, by rw [List.getElem?_append_left (by omega)]; exact b, by rw [List.getElem?_append_left (by omega)]; exact c⟩
    · have e : i = n := by omega
      subst e
      exact ⟨by rw [List.getElem?_append_right (by omega), l]; simp, by rw [List.getElem?_append_right (by omega), l]; simp, by rw [List.getElem?_append_right (by omega), l]; simp⟩
theorem flV_one (n : Nat) (v : Nat → Vl) : ∀ u ∈ flV n v, u.oneCell' = true := by
  intro u hu
  unfold flV at hu
  obtain ⟨i, _, h⟩ := List.mem_flatMap.1 hu
  simp at h
  rcases h with rfl | rfl | rfl <;> rfl
theorem add_off (a : Addr) (i j : Nat) : (a.add i).add j = a.add (i + j) := by
  unfold Addr.add
  by_cases hi : i = 0 <;> by_cases hj : j = 0 <;> simp [hi, hj, Nat.add_assoc]
theorem add_pos (a : Addr) (j : Nat) (h : 0 < j) : a.add j = ⟨a.block, a.off + j, none⟩ := by
  unfold Addr.add; rw [if_neg (by omega)]
theorem flV_src {w : World} {a : Addr} {n : Nat} {v : Nat → Vl} (h : VsAt w a n v) : ∀ j u, (flV n v)[j]? = some u → w.cell? (a.add j) = some u := by
  intro j u hu
  have hj : j < (flV n v).length := by
    rcases Nat.lt_or_ge j (flV n v).length with g | g
    · exact g
    · rw [List.getElem?_eq_none g] at hu; cases hu
  rw [flV_len] at hj
  obtain ⟨q, r, e, hr⟩ : ∃ q r, j = q * 3 + r ∧ r < 3 := ⟨j / 3, j % 3, by omega, by omega⟩
  subst e
  obtain ⟨h0, h1, h2⟩ := h q (by omega)
  obtain ⟨f0, f1, f2⟩ := flV_at n v q (by omega)
  have c : r = 0 ∨ r = 1 ∨ r = 2 := by omega
  rcases c with rfl | rfl | rfl
  · rw [Nat.add_zero, f0] at hu; cases hu
    rw [Nat.add_zero]; exact h0
  · rw [f1] at hu; cases hu
    rw [← add_off, add_pos _ 1 (by omega)]; exact h1
  · rw [f2] at hu; cases hu
    rw [← add_off, add_pos _ 2 (by omega)]; exact h2
theorem row_take {A : Array Value} {n : Nat} {v : Nat → Vl} (h : A.toList.take (n * 3) = flV n v) (i : Nat) (hi : i < n) : A[i * 3]? = some (.int .u8 (v i).k) ∧ A[i * 3 + 1]? = some (.int .u64 (v i).b) ∧ A[i * 3 + 2]? = some (.string (v i).s) := by
  obtain ⟨a, b, c⟩ := flV_at n v i hi
  rw [← h] at a b c
  rw [List.getElem?_take_of_lt (by omega)] at a b c
  exact ⟨by simpa using a, by simpa using b, by simpa using c⟩
theorem own_rowC {w : World} {base n : Nat} {x : Value} {v : Nat → Vl} (h : w.ownsRow base 27 3 x n (flV n v)) (hn : 0 < n) : ∃ g cap, x = .slice (some ⟨g, 0, none⟩) n cap ∧ base ≤ g ∧ VsAt w ⟨g, 0, none⟩ n v ∧ n ≤ cap := by
  obtain ⟨h1, h2⟩ := h
  rcases h2 with ⟨_, e⟩ | ⟨g, cap, cur, e, hb, hg, hc, hm, hs, ht⟩
  · omega
  · refine ⟨g, cap, e, hb, fun i hi => ?_, by omega⟩
    have e : (⟨g, 0, none⟩ : Addr).add (i * 3) = ⟨g, i * 3, none⟩ := by unfold Addr.add; split <;> simp_all
    obtain ⟨a, b, c⟩ := row_take ht i hi
    rw [e]
    exact ⟨by simp [World.cell?, hg, a], by simp [World.cell?, hg, b], by simp [World.cell?, hg, c]⟩
theorem sl_nil (a : Addr) (n cap : Nat) (w : World) : (binOp .eql 22 (.slice (some a) n cap) (.slice none 0 0)).run Tryz.prog w = .ok (.bool false) w := by kernel_rfl
theorem own_none (w : World) : (w.alloc (.cells #[] 27)).ownsRow w.heap.size 27 3 (.slice (some ⟨w.heap.size, 0, none⟩) 0 0) 0 [] :=
  ⟨rfl, .inr ⟨w.heap.size, 0, #[], rfl, Nat.le_refl _, heap_alloc_last w _, Nat.le_refl _, Nat.zero_le _, rfl, rfl⟩⟩
set_option maxHeartbeats 1000000 in
theorem CloneV (a : Addr) (n cap : Nat) (v : Nat → Vl) (w : World) (hv : VsAt w a n v) (hn : 0 < n) (hb : n * 32 ≤ 140737488355328) :
    Calls Tryz.prog 8 #[.slice (some a) n cap] w fun e w' => ∃ g c, e = .returned (.slice (some ⟨g, 0, none⟩) n c) ∧ w.heap.size ≤ g ∧ VsAt w' ⟨g, 0, none⟩ n v ∧ n ≤ c ∧ Below w.heap.size w w' := by
  have HV : Hid (VsAt w a n v) := hv
  clear hv
  have sn := sl_nil a n cap
  have I : Hid (∃ i, Tryz.prog.info? 27 = some i ∧ i.zero = some (.agg #[.int .u8 0, .int .u64 0, .string ⟨#[]⟩]) ∧ i.size = 3 ∧ i.bytes = 32) := by
    obtain ⟨i, hi, hz⟩ := Option.map_eq_some_iff.1 (show (Tryz.prog.info? 27).map (fun i => (i.zero, i.size, i.bytes)) = some (some (.agg #[.int .u8 0, .int .u64 0, .string ⟨#[]⟩]), 3, 32) by kernel_rfl)
    simp only [Prod.mk.injEq] at hz
    exact ⟨i, hi, hz.1, hz.2.1, hz.2.2⟩
  go_enter Tryz.func8, Tryz.ntmps8
  go_wp2_with (at_builtin; obtain ⟨i, hi, hz, hs, hy⟩ := I.out; refine wpList_append_own _ rfl _ _ 22 rfl w.heap.size 27 i _ 3 32 Tryz.underlying22 hi hz hs hy rfl (by decide) _ 0 [] rfl (own_none w) a n cap (flV n v) rfl (flV_len n v) (flV_src (HV.out.below ((Below.refl _ _).alloc (Nat.le_refl _) _))) (flV_one n v) (by simp [maxLen]; omega) (by omega) (by simp) ?_; intro v' w' h1 h2 h3; rw [Nat.zero_add, List.nil_append] at h1; have H1 : Hid (w'.ownsRow w.heap.size 27 3 v' n (flV n v)) := h1; have H2 : Hid _ := h2; clear h1 h2 h3 hi hz hs hy)
  obtain ⟨g, c, rfl, hg, hr, hc⟩ := own_rowC H1.out hn
  go_ret
  exact ⟨g, c, rfl, hg, hr, hc, ((Below.refl _ _).alloc (Nat.le_refl _) _).grown H2.out (by simp) (fun k e => by cases e; exact Nat.le_refl _)⟩
end Go.Proofs.YtpaibmganlaaeaaGreatDoor
