/- What the statement's function of ValueStays answers; no statement of the seat is proved here. -/
import Derived.Test.YtfihbpglnnheiaaDoorCvF
import Derived.Test.YtfihbpglnnheiaaDoorStay
import Derived.Test.YtfihbpglnnheiaaDoorIntV
namespace Go.Proofs.YtfihbpglnnheiaaDoor
set_option linter.unusedVariables false
open Go.RowKit
theorem int35 : intR 3 5 = .tuple #[V 3 5 E0, .int .i64 0] := by
  simp [intR, fitOk, may3, mayW, sg, num, wrap64]
theorem may35 : may3 3 5 E0 = true := by
  simp [may3, mayW, sg]
section
variable (op k ka ba : Int) (sa : ByteArray) (kb bb : Int) (sb : ByteArray) (w : World)
set_option maxRecDepth 100000 in
set_option maxHeartbeats 4000000 in
theorem Stays_of (hk : 0 ≤ k ∧ k < 256) (hka : 0 ≤ ka ∧ ka < 256) (a0 : 0 ≤ ba) (a1 : ba < 18446744073709551616) (hsa : sa.size ≤ maxLen) (hkb : 0 ≤ kb ∧ kb < 256) (b0 : 0 ≤ bb) (b1 : bb < 18446744073709551616) (hsb : sb.size ≤ maxLen) (hP : Pow w) :
    Calls Tryd.prog 3 #[.int .i64 op, .int .u8 k, V ka ba sa, V kb bb sb] w fun e w' => e = .returned (.bool true) ∧ Below w.heap.size w w' := by
  have I5 : Hid (∀ w, Calls Tryd.prog 4 #[.int .u8 3, .int .i64 5] w fun e w' => e = .returned (.tuple #[V 3 5 E0, .int .i64 0]) ∧ Below w.heap.size w w') := fun w => by
    have := Int_of 3 5 w (by omega) (by omega)
    rwa [int35] at this
  have MR : Hid (∀ k b s w, 0 ≤ b → b < 18446744073709551616 → 0 ≤ k ∧ k < 256 → s.size ≤ maxLen → Calls Tryd.prog 5 #[V k b s] w fun e w' => e = .returned (.bool (may3 k b s)) ∧ Below w.heap.size w w') := fun k b s w h0 h1 hk hs => MayR_of k b s w h0 h1 hk hs
  obtain ⟨kx, bx, sx, fx, ex, hbx, hkx, hsx, hfx⟩ := reck_ok op ka ba kb bb sa sb a0 a1 hka b0 b1
  obtain ⟨ky, bY, sy, fy, ey, hby, hky, hsy, hfy⟩ := turn_ok op ka ba sa a0 a1 hka
  have RK : Hid (∀ w, Calls Tryd.prog 6 #[.int .i64 op, V ka ba sa, V kb bb sb] w fun e w' => e = .returned (.tuple #[V kx bx sx, .int .i64 fx]) ∧ Below w.heap.size w w') := fun w => by
    have := Reckon_of op ka ba kb bb sa sb w a0 a1 hka hsa b0 b1 hkb hsb
    rwa [ex] at this
  have TN : Hid (∀ w, Calls Tryd.prog 7 #[.int .i64 op, V ka ba sa] w fun e w' => e = .returned (.tuple #[V ky bY sy, .int .i64 fy]) ∧ Below w.heap.size w w') := fun w => by
    have := Turn_of op ka ba sa w a0 a1 hka hsa
    rwa [ey] at this
  have CV : Hid (∀ w, Pow w → Calls Tryd.prog 8 #[.int .u8 k, V ka ba sa] w fun e w' => CvOk k e ∧ Below w.heap.size w w') := fun w h => Convert_of k ka ba sa w a0 a1 hk hka hsa h
  have HP : Hid (Pow w) := hP
  have HX : Hid _ := hfx
  have HY : Hid _ := hfy
  clear hP hfx hfy ex ey
  go_enter Tryd.func3, Tryd.ntmps3
  go_wp2_with fail
  refine (I5.out _).mono ?_
  rintro e w1 ⟨rfl, hb⟩
  have B1 : Hid (Below w.heap.size w w1) := (((Below.refl _ _).alloc (Nat.le_refl _) _).alloc (by simp) _).trans (hb.mono (by simp; omega))
  have A1 : Hid (Lies w1 w.heap.size ka ba sa) := ((Lies.new w ka ba sa _).alloc _).next hb
  have C1 : Hid (Lies w1 (w.heap.size + 1) kb bb sb) := by
    have h := (Lies.new (w.alloc (.cells #[.int .u8 ka, .int .u64 ba, .string sa] 25)) kb bb sb 25).next hb
    show Lies _ _ _ _ _
    simpa using h
  clear hb
  obtain ⟨l0, c00, c01, c02⟩ := A1.out
  obtain ⟨l1, c10, c11, c12⟩ := C1.out
  go_wp2_with fail
  refine (MR.out _ _ _ _ (by omega) (by omega) (by omega) (Nat.zero_le _)).mono ?_
  rintro e w2 ⟨rfl, hb⟩
  have B2 : Hid (Below w.heap.size w w2) := (B1.out.alloc (by omega) _).trans (hb.mono (by simp; omega))
  have A2 : Hid (Lies w2 w.heap.size ka ba sa) := (A1.out.alloc _).next hb
  have C2 : Hid (Lies w2 (w.heap.size + 1) kb bb sb) := (C1.out.alloc _).next hb
  clear hb B1 A1 C1 l0 c00 c01 c02 l1 c10 c11 c12
  rw [may35]
  obtain ⟨l0, c00, c01, c02⟩ := A2.out
  obtain ⟨l1, c10, c11, c12⟩ := C2.out
  go_wp2_with fail
  refine (RK.out _).mono ?_
  rintro e w3 ⟨rfl, hb⟩
  have B3 : Hid (Below w.heap.size w w3) := B2.out.trans (hb.mono B2.out.size)
  have A3 : Hid (Lies w3 w.heap.size ka ba sa) := A2.out.next hb
  clear hb B2 A2 C2 l0 c00 c01 c02 l1 c10 c11 c12
  obtain ⟨l0, c00, c01, c02⟩ := A3.out
  by_cases f0 : fx = 0
  · have MX : Hid _ := HX.out f0
    subst f0
    go_wp2_with fail
    refine (MR.out _ _ _ _ hbx.1 hbx.2 hkx hsx).mono ?_
    rw [MX.out]
    rintro e w4 ⟨rfl, hb⟩
    have BW : Hid (Below w.heap.size w w4) := (B3.out.alloc (by omega) _).trans (hb.mono (by simp; omega))
    have AW : Hid (Lies w4 w.heap.size ka ba sa) := (A3.out.alloc _).next hb
    clear hb l0 c00 c01 c02
    obtain ⟨l0, c00, c01, c02⟩ := AW.out
    go_wp2_with fail
    refine (TN.out _).mono ?_
    rintro e w5 ⟨rfl, hb⟩
    have B5 : Hid (Below w.heap.size w w5) := BW.out.trans (hb.mono BW.out.size)
    have A5 : Hid (Lies w5 w.heap.size ka ba sa) := AW.out.next hb
    clear hb BW AW l0 c00 c01 c02
    obtain ⟨l0, c00, c01, c02⟩ := A5.out
    by_cases f1 : fy = 0
    · have MY : Hid _ := HY.out f1
      subst f1
      go_wp2_with fail
      refine (MR.out _ _ _ _ hby.1 hby.2 hky hsy).mono ?_
      rw [MY.out]
      rintro e w6 ⟨rfl, hb⟩
      have B6 : Hid (Below w.heap.size w w6) := (B5.out.alloc (by omega) _).trans (hb.mono (by simp; omega))
      have A6 : Hid (Lies w6 w.heap.size ka ba sa) := (A5.out.alloc _).next hb
      clear hb l0 c00 c01 c02
      obtain ⟨l0, c00, c01, c02⟩ := A6.out
      have P6 : Hid (Pow w6) := pow_below HP.out B6.out
      go_wp2_with fail
      refine (CV.out _ P6.out).mono ?_
      rintro e w7 ⟨⟨kz, bz, sz, fz, rfl, hbz, hkz, hsz, hfz⟩, hb⟩
      have B7 : Hid (Below w.heap.size w w7) := B6.out.trans (hb.mono B6.out.size)
      have l7 : w.heap.size ≤ w7.heap.size := B7.out.size
      clear hb l0 c00 c01 c02
      by_cases f2 : fz = 0
      · obtain ⟨mz, ez⟩ := hfz f2
        subst f2
        subst ez
        have MZ : Hid _ := mz
        clear mz hfz
        go_wp2_with fail
        refine (MR.out _ _ _ _ hbz.1 hbz.2 hkz hsz).mono ?_
        rw [MZ.out]
        rintro e w8 ⟨rfl, hb⟩
        have B8 : Hid (Below w.heap.size w w8) := (B7.out.alloc (by omega) _).trans (hb.mono (by simp; omega))
        obtain ⟨m0, d0, d1, d2⟩ := (Lies.new w7 kz bz sz _).next hb
        clear hb
        go_wp2
        go_ret
        exact ⟨rfl, B8.out⟩
      · have g2 : (fz == 0) = false := by simpa using f2
        go_wp2
        go_ret
        exact ⟨rfl, B7.out.alloc (by omega) _⟩
    · have g1 : (fy == 0) = false := by simpa using f1
      have P6 : Hid (∀ o, Pow (w5.alloc o)) := fun o => pow_below HP.out (B5.out.alloc (by omega) o)
      go_wp2_with fail
      refine (CV.out _ (P6.out _)).mono ?_
      rintro e w7 ⟨⟨kz, bz, sz, fz, rfl, hbz, hkz, hsz, hfz⟩, hb⟩
      have B7 : Hid (Below w.heap.size w w7) := (B5.out.alloc (by omega) _).trans (hb.mono (by simp; omega))
      have l7 : w.heap.size ≤ w7.heap.size := B7.out.size
      clear hb l0 c00 c01 c02
      by_cases f2 : fz = 0
      · obtain ⟨mz, ez⟩ := hfz f2
        subst f2
        subst ez
        have MZ : Hid _ := mz
        clear mz hfz
        go_wp2_with fail
        refine (MR.out _ _ _ _ hbz.1 hbz.2 hkz hsz).mono ?_
        rw [MZ.out]
        rintro e w8 ⟨rfl, hb⟩
        have B8 : Hid (Below w.heap.size w w8) := (B7.out.alloc (by omega) _).trans (hb.mono (by simp; omega))
        obtain ⟨m0, d0, d1, d2⟩ := (Lies.new w7 kz bz sz _).next hb
        clear hb
        go_wp2
        go_ret
        exact ⟨rfl, B8.out⟩
      · have g2 : (fz == 0) = false := by simpa using f2
        go_wp2
        go_ret
        exact ⟨rfl, B7.out.alloc (by omega) _⟩
  · have g0 : (fx == 0) = false := by simpa using f0
    have BW : Hid (Below w.heap.size w (w3.alloc (.cells #[.int .u8 kx, .int .u64 bx, .string sx] 25))) := B3.out.alloc (by omega) _
    have AW : Hid (Lies (w3.alloc (.cells #[.int .u8 kx, .int .u64 bx, .string sx] 25)) w.heap.size ka ba sa) := A3.out.alloc _
    go_wp2_with fail
    refine (TN.out _).mono ?_
    rintro e w5 ⟨rfl, hb⟩
    have B5 : Hid (Below w.heap.size w w5) := BW.out.trans (hb.mono BW.out.size)
    have A5 : Hid (Lies w5 w.heap.size ka ba sa) := AW.out.next hb
    clear hb BW AW l0 c00 c01 c02
    obtain ⟨l0, c00, c01, c02⟩ := A5.out
    by_cases f1 : fy = 0
    · have MY : Hid _ := HY.out f1
      subst f1
      go_wp2_with fail
      refine (MR.out _ _ _ _ hby.1 hby.2 hky hsy).mono ?_
      rw [MY.out]
      rintro e w6 ⟨rfl, hb⟩
      have B6 : Hid (Below w.heap.size w w6) := (B5.out.alloc (by omega) _).trans (hb.mono (by simp; omega))
      have A6 : Hid (Lies w6 w.heap.size ka ba sa) := (A5.out.alloc _).next hb
      clear hb l0 c00 c01 c02
      obtain ⟨l0, c00, c01, c02⟩ := A6.out
      have P6 : Hid (Pow w6) := pow_below HP.out B6.out
      go_wp2_with fail
      refine (CV.out _ P6.out).mono ?_
      rintro e w7 ⟨⟨kz, bz, sz, fz, rfl, hbz, hkz, hsz, hfz⟩, hb⟩
      have B7 : Hid (Below w.heap.size w w7) := B6.out.trans (hb.mono B6.out.size)
      have l7 : w.heap.size ≤ w7.heap.size := B7.out.size
      clear hb l0 c00 c01 c02
      by_cases f2 : fz = 0
      · obtain ⟨mz, ez⟩ := hfz f2
        subst f2
        subst ez
        have MZ : Hid _ := mz
        clear mz hfz
        go_wp2_with fail
        refine (MR.out _ _ _ _ hbz.1 hbz.2 hkz hsz).mono ?_
        rw [MZ.out]
        rintro e w8 ⟨rfl, hb⟩
        have B8 : Hid (Below w.heap.size w w8) := (B7.out.alloc (by omega) _).trans (hb.mono (by simp; omega))
        obtain ⟨m0, d0, d1, d2⟩ := (Lies.new w7 kz bz sz _).next hb
        clear hb
        go_wp2
        go_ret
        exact ⟨rfl, B8.out⟩
      · have g2 : (fz == 0) = false := by simpa using f2
        go_wp2
        go_ret
        exact ⟨rfl, B7.out.alloc (by omega) _⟩
    · have g1 : (fy == 0) = false := by simpa using f1
      have P6 : Hid (∀ o, Pow (w5.alloc o)) := fun o => pow_below HP.out (B5.out.alloc (by omega) o)
      go_wp2_with fail
      refine (CV.out _ (P6.out _)).mono ?_
      rintro e w7 ⟨⟨kz, bz, sz, fz, rfl, hbz, hkz, hsz, hfz⟩, hb⟩
      have B7 : Hid (Below w.heap.size w w7) := (B5.out.alloc (by omega) _).trans (hb.mono (by simp; omega))
      have l7 : w.heap.size ≤ w7.heap.size := B7.out.size
      clear hb l0 c00 c01 c02
      by_cases f2 : fz = 0
      · obtain ⟨mz, ez⟩ := hfz f2
        subst f2
        subst ez
        have MZ : Hid _ := mz
        clear mz hfz
        go_wp2_with fail
        refine (MR.out _ _ _ _ hbz.1 hbz.2 hkz hsz).mono ?_
        rw [MZ.out]
        rintro e w8 ⟨rfl, hb⟩
        have B8 : Hid (Below w.heap.size w w8) := (B7.out.alloc (by omega) _).trans (hb.mono (by simp; omega))
        obtain ⟨m0, d0, d1, d2⟩ := (Lies.new w7 kz bz sz _).next hb
        clear hb
        go_wp2
        go_ret
        exact ⟨rfl, B8.out⟩
      · have g2 : (fz == 0) = false := by simpa using f2
        go_wp2
        go_ret
        exact ⟨rfl, B7.out.alloc (by omega) _⟩
end
end Go.Proofs.YtfihbpglnnheiaaDoor
