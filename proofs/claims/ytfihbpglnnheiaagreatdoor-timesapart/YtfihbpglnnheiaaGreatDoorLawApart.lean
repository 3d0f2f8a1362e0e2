/- TimesApart is proved: for every value the statement's function returns true, and its argument reads as it did; the listed tables hold what the programs' texts lay in them (tied). -/
import Derived.Test.YtfihbpglnnheiaaGreatDoorParts
import Derived.Test.YtfihbpglnnheiaaGreatDoorOpenJ
import Derived.Test.YtfihbpglnnheiaaGreatDoorLaidU
import Derived.Test.YtfihbpglnnheiaaGreatDoorTie
import Derived.Test.YtfihbpglnnheiaaGreatDoorCards
import Derived.ShutString
import Derived.ChangeOld
import Derived.Below
import Derived.LaidMore
import Derived.Lay
import Derived.SevenTiedAt
import Derived.Stop.Joined
namespace Go.Proofs.YtfihbpglnnheiaaGreatDoor.LawTimesApart
set_option linter.unusedVariables false
open Go.ChangeShapes Go.WideShapes Go.ChangeAt Go.RowKit
theorem own : ownKnob Tryz.prog.godebug = none := by kernel_rfl
theorem laidOut : laidOutB Tryz.prog = true := by kernel_rfl
theorem of_laid {W : World} (h : laidMetH Tryz.prog Rows.timesApartRow.laid W) : Tab W ∧ UT W := by
  rw [MakeChecks.laidMetH_plain _ _ _ (by kernel_rfl)] at h
  refine ⟨tab_of ?_, ut_of ?_⟩
  · exact h.filter fun x => x.1 == "relay/times.monthDays"
  · exact h.filter fun x => x.1 == "relay/times.units"
theorem tab_below {w w1 : World} {B : Nat} (h : Tab w) (hb : Below B w w1) (hB : 1 < B) : Tab w1 := fun m hm => (hb.cell (p := ⟨1, m, none⟩) hB).trans (h m hm)
theorem tab_pos {w : World} (h : Tab w) : 1 < w.heap.size := World.block_lt_of_cell? w ⟨1, 0, none⟩ (h 0 (by omega))
/-- A value lies in a box. -/
structure Lies (W : World) (p : Nat) (k b : Int) (s : ByteArray) : Prop where
  lt : p < W.heap.size
  c0 : W.cell? ⟨p, 0, none⟩ = some (.int .u8 k)
  c1 : W.cell? ⟨p, 1, none⟩ = some (.int .u64 b)
  c2 : W.cell? ⟨p, 2, none⟩ = some (.string s)
theorem Lies.next {W w' : World} {p : Nat} {k b : Int} {s : ByteArray} (h : Lies W p k b s) (hb : Below W.heap.size W w') : Lies w' p k b s :=
  ⟨Nat.lt_of_lt_of_le h.lt hb.size, by rw [hb.cell (p := ⟨p, 0, none⟩) h.lt]; exact h.c0, by rw [hb.cell (p := ⟨p, 1, none⟩) h.lt]; exact h.c1, by rw [hb.cell (p := ⟨p, 2, none⟩) h.lt]; exact h.c2⟩
theorem Lies.alloc {W : World} {p : Nat} {k b : Int} {s : ByteArray} (h : Lies W p k b s) (o : Obj) : Lies (W.alloc o) p k b s := h.next ((Below.refl _ _).alloc (Nat.le_refl _) _)
theorem Lies.new (W : World) (k b : Int) (s : ByteArray) (t : TypeId) : Lies (W.alloc (.cells #[.int .u8 k, .int .u64 b, .string s] t)) W.heap.size k b s :=
  ⟨by simp, by simp, by simp, by simp⟩
section
variable (k b : Int) (s : ByteArray) (w : World)
set_option maxHeartbeats 4000000 in
theorem walk_no (h0 : 0 ≤ b) (h1 : b < 18446744073709551616) (hk : 0 ≤ k ∧ k < 256) (hs : s.size ≤ maxLen) (hT : Tab w) (u : UT w) (hn : k ≠ 17 ∨ may3 k b s = false) :
    Calls Tryz.prog 3 #[V k b s] w fun e w' => e = .returned (.bool true) ∧ Below w.heap.size w w' := by
  have P1 : Hid (∀ w, Calls Tryz.prog 4 #[.int .u8 15, V k b s] w fun e w' => e = .returned (.tuple #[V 0 0 E0, .bool false]) ∧ Below w.heap.size w w') := fun w => by
    have := Part_of 15 k b s w h0 h1 hs
    rwa [← PV_f (by unfold partOk; rcases hn with h | h <;> simp [h])] at this
  have P2 : Hid (∀ w, Calls Tryz.prog 4 #[.int .u8 16, V k b s] w fun e w' => e = .returned (.tuple #[V 0 0 E0, .bool false]) ∧ Below w.heap.size w w') := fun w => by
    have := Part_of 16 k b s w h0 h1 hs
    rwa [← PV_f (by unfold partOk; rcases hn with h | h <;> simp [h])] at this
  have HT : Hid (Tab w) := hT
  have U : Hid (UT w) := u
  clear hT u
  go_enter Tryz.func3, Tryz.ntmps3
  go_wp2_with fail
  refine (P1.out _).mono ?_
  rintro e w1 ⟨rfl, hb⟩
  have B : Hid (Below w.heap.size w w1) := ((Below.refl _ _).alloc (Nat.le_refl _) _).trans (hb.mono (by simp))
  have A0 : Hid (Lies w1 w.heap.size k b s) := (Lies.new w k b s _).next hb
  clear hb
  obtain ⟨l0, c00, c01, c02⟩ := A0.out
  go_wp2_with fail
  refine (P2.out _).mono ?_
  rintro e w2 ⟨rfl, hb⟩
  have B2 : Hid (Below w.heap.size w w2) := (B.out.alloc (by omega) _).trans (hb.mono (by simp; omega))
  have A0' : Hid (Lies w2 w.heap.size k b s) := (A0.out.alloc _).next hb
  have l4 : w.heap.size < w2.heap.size := A0'.out.lt
  clear hb B A0 l0 c00 c01 c02
  obtain ⟨l0, c00, c01, c02⟩ := A0'.out
  have HT2 : Hid (∀ o, Tab (w2.alloc o)) := fun o => tab_below HT.out (B2.out.alloc (by omega) o) (tab_pos HT.out)
  have U2 : Hid (∀ o, UT (w2.alloc o)) := fun o => U.out.below (B2.out.alloc (by omega) o) U.out.pos
  have MR : Hid (k = 17 → ∀ w, Calls Tryz.prog 5 #[V k b s] w fun e w' => e = .returned (.bool false) ∧ Below w.heap.size w w') := fun e w => by
    rcases hn with q | q
    · exact absurd e q
    · have := MayR_of k b s w h0 h1 hk hs
      rwa [q] at this
  have HT3 : Hid (∀ o w3, Below (w2.alloc o).heap.size (w2.alloc o) w3 → Tab w3) := fun o w3 h => tab_below (HT2.out o) h (tab_pos (HT2.out o))
  have U3 : Hid (∀ o w3, Below (w2.alloc o).heap.size (w2.alloc o) w3 → UT w3) := fun o w3 h => (U2.out o).below h (U2.out o).pos
  by_cases e17 : k = 17
  · have MR' : Hid _ := MR.out e17
    subst e17
    clear hn
    go_wp2_with fail
    refine (MR'.out _).mono ?_
    rintro e w3 ⟨rfl, hb⟩
    have T3 : Hid _ := HT3.out _ _ hb
    have V3 : Hid _ := U3.out _ _ hb
    have B3 : Hid (Below w.heap.size w w3) := (B2.out.alloc (by omega) _).trans (hb.mono (by simp; omega))
    clear hb
    go_wp2_with (go_at_call 6; refine (awake_of _ V3.out T3.out).mono ?_; rintro e w4 ⟨rfl, hb4⟩)
    go_ret
    exact ⟨rfl, B3.out.trans (hb4.mono B3.out.size)⟩
  · have f17 : (k == 17) = false := by simpa using e17
    clear hn
    go_wp2_with (go_at_call 6; refine (awake_of _ (U2.out _) (HT2.out _)).mono ?_; rintro e w4 ⟨rfl, hb4⟩)
    go_ret
    exact ⟨rfl, (B2.out.alloc (by omega) _).trans (hb4.mono (by simp; omega))⟩
theorem day_may (b : Int) (h0 : 0 ≤ b) (h1 : b < 7258118400000000000) : may3 15 (b - b % 86400000000000) E0 = true ∧ may3 16 (b % 86400000000000) E0 = true := by
  have e : E0.toList = [] := (toList_nil_iff_emptyBytes E0).2 rfl
  constructor
  · simp only [may3, mayW, e]
    simp
    omega
  · simp only [may3, mayW, e]
    simp
    omega
set_option maxHeartbeats 4000000 in
theorem walk_yes (h0 : 0 ≤ b) (h1 : b < 7258118400000000000) (m : may3 17 b E0 = true) :
    Calls Tryz.prog 3 #[V 17 b E0] w fun e w' => e = .returned (.bool true) ∧ Below w.heap.size w w' := by
  have e0 : E0.size ≤ maxLen := Nat.zero_le _
  have dm := day_may b h0 h1
  generalize hx : b - b % 86400000000000 = x at dm
  generalize hy : b % 86400000000000 = y at dm
  have xy : x + y = b := by omega
  have x0 : 0 ≤ x := by omega
  have y0 : 0 ≤ y := by omega
  have P1 : Hid (∀ w, Calls Tryz.prog 4 #[.int .u8 15, V 17 b E0] w fun e w' => e = .returned (.tuple #[V 15 x E0, .bool true]) ∧ Below w.heap.size w w') := fun w => by
    have := Part_of 15 17 b E0 w h0 (by omega) e0
    rwa [← PV_t (n := x) (by simp [partOk, m]) (by simp [partB, hx])] at this
  have P2 : Hid (∀ w, Calls Tryz.prog 4 #[.int .u8 16, V 17 b E0] w fun e w' => e = .returned (.tuple #[V 16 y E0, .bool true]) ∧ Below w.heap.size w w') := fun w => by
    have := Part_of 16 17 b E0 w h0 (by omega) e0
    rwa [← PV_t (n := y) (by simp [partOk, m]) (by simp [partB, hy])] at this
  have MV : Hid (∀ w, Calls Tryz.prog 5 #[V 17 b E0] w fun e w' => e = .returned (.bool true) ∧ Below w.heap.size w w') := fun w => by
    have := MayR_of 17 b E0 w h0 (by omega) (by omega) e0
    rwa [m] at this
  have MX : Hid (∀ w, Calls Tryz.prog 5 #[V 15 x E0] w fun e w' => e = .returned (.bool true) ∧ Below w.heap.size w w') := fun w => by
    have := MayR_of 15 x E0 w x0 (by omega) (by omega) e0
    rwa [dm.1] at this
  have MY : Hid (∀ w, Calls Tryz.prog 5 #[V 16 y E0] w fun e w' => e = .returned (.bool true) ∧ Below w.heap.size w w') := fun w => by
    have := MayR_of 16 y E0 w y0 (by omega) (by omega) e0
    rwa [dm.2] at this
  have JN : Hid (∀ w, Calls Tryz.prog 7 #[V 15 x E0, V 16 y E0] w fun e w' => e = .returned (.tuple #[V 17 b E0, .bool true]) ∧ Below w.heap.size w w') := fun w => by
    have := Join_of 15 x 16 y E0 E0 w x0 (by omega) e0 y0 (by omega) e0
    rw [← JV_t (by simp [joinOk, dm.1, dm.2])] at this
    rwa [xy] at this
  clear dm hx hy xy m
  go_enter Tryz.func3, Tryz.ntmps3
  go_wp2_with fail
  refine (P1.out _).mono ?_
  rintro e w1 ⟨rfl, hb⟩
  have B : Hid (Below w.heap.size w w1) := ((Below.refl _ _).alloc (Nat.le_refl _) _).trans (hb.mono (by simp))
  have A0 : Hid (Lies w1 w.heap.size 17 b E0) := (Lies.new w 17 b E0 _).next hb
  clear hb
  obtain ⟨l0, c00, c01, c02⟩ := A0.out
  go_wp2_with fail
  refine (P2.out _).mono ?_
  rintro e w2 ⟨rfl, hb⟩
  have B2 : Hid (Below w.heap.size w w2) := (B.out.alloc (by omega) _).trans (hb.mono (by simp; omega))
  have A0' : Hid (Lies w2 w.heap.size 17 b E0) := (A0.out.alloc _).next hb
  have A1 : Hid (Lies w2 w1.heap.size 15 x E0) := (Lies.new w1 15 x E0 _).next hb
  clear hb B A0 l0 c00 c01 c02
  obtain ⟨l0, c00, c01, c02⟩ := A0'.out
  obtain ⟨l1, c10, c11, c12⟩ := A1.out
  go_wp2_with fail
  refine (MV.out _).mono ?_
  rintro e w3 ⟨rfl, hb⟩
  have B3 : Hid (Below w.heap.size w w3) := (B2.out.alloc (by omega) _).trans (hb.mono (by simp; omega))
  have D0 : Hid (Lies w3 w.heap.size 17 b E0) := (A0'.out.alloc _).next hb
  have D1 : Hid (Lies w3 w1.heap.size 15 x E0) := (A1.out.alloc _).next hb
  have D2 : Hid (Lies w3 w2.heap.size 16 y E0) := (Lies.new w2 16 y E0 _).next hb
  clear hb B2 A0' A1 l0 c00 c01 c02 l1 c10 c11 c12
  obtain ⟨l0, c00, c01, c02⟩ := D0.out
  obtain ⟨l1, c10, c11, c12⟩ := D1.out
  obtain ⟨l2, c20, c21, c22⟩ := D2.out
  go_wp2_with fail
  refine (JN.out _).mono ?_
  rintro e w4 ⟨rfl, hb⟩
  have B4 : Hid (Below w.heap.size w w4) := B3.out.trans (hb.mono B3.out.size)
  have F0 : Hid (Lies w4 w.heap.size 17 b E0) := D0.out.next hb
  have F1 : Hid (Lies w4 w1.heap.size 15 x E0) := D1.out.next hb
  have F2 : Hid (Lies w4 w2.heap.size 16 y E0) := D2.out.next hb
  clear hb B3 D0 D1 D2 l0 c00 c01 c02 l1 c10 c11 c12 l2 c20 c21 c22
  obtain ⟨l0, c00, c01, c02⟩ := F0.out
  obtain ⟨l1, c10, c11, c12⟩ := F1.out
  obtain ⟨l2, c20, c21, c22⟩ := F2.out
  go_wp2_with fail
  refine (MX.out _).mono ?_
  rintro e w5 ⟨rfl, hb⟩
  have B5 : Hid (Below w.heap.size w w5) := (B4.out.alloc (by omega) _).trans (hb.mono (by simp; omega))
  have G2 : Hid (Lies w5 w2.heap.size 16 y E0) := (F2.out.alloc _).next hb
  clear hb B4 F0 F1 F2 l0 c00 c01 c02 l1 c10 c11 c12 l2 c20 c21 c22
  obtain ⟨l2, c20, c21, c22⟩ := G2.out
  go_wp2_with fail
  refine (MY.out _).mono ?_
  rintro e w6 ⟨rfl, hb⟩
  go_wp2
  go_ret
  exact ⟨rfl, B5.out.trans (hb.mono B5.out.size)⟩
theorem walk (h0 : 0 ≤ b) (h1 : b < 18446744073709551616) (hk : 0 ≤ k ∧ k < 256) (hs : s.size ≤ maxLen) (hT : Tab w) (u : UT w) :
    Calls Tryz.prog 3 #[V k b s] w fun e w' => e = .returned (.bool true) ∧ Below w.heap.size w w' := by
  by_cases e : k = 17
  · subst e
    cases m : may3 17 b s
    · exact walk_no 17 b s w h0 h1 hk hs hT u (Or.inr m)
    · have l := dt_lt m
      have q : s.toList = [] := by simp [may3] at m; exact m.1
      have : s = E0 := (toList_nil_iff_emptyBytes s).1 q
      subst this
      exact walk_yes b w h0 l m
  · exact walk_no k b s w h0 h1 hk hs hT u (Or.inl e)
end
set_option maxRecDepth 100000 in
theorem lifted (os : Os) (started : os.Started) (H : Type) (enc : TypeId × Value → H) :
    ReturnsInHanded {} Tryz.checked os 3 .any (fun w args => (Rows.timesApartSpec.pre enc Tryz.prog Tryz.f3 [] false w args ∧ laidMetH Tryz.prog Rows.timesApartRow.laid w) ∧ sizedMet enc Tryz.prog Tryz.f3 (OpenSpec.ofChange Rows.timesApartSpec) false w args)
      (Rows.timesApartSpec.post enc Tryz.prog Tryz.f3 false true false false) := by
  refine returnsInHanded_of_change_and (C := Tryz.checked) (X := fun w _ => laidMetH Tryz.prog Rows.timesApartRow.laid w) (fun _ _ _ hh h => h.of_heap hh) own started (by kernel_rfl) Tryz.func3
    (ChangeSpec.witness_shaped (enc := enc) (C := Tryz.checked) (os := os) (X := fun w _ => laidMetH Tryz.prog Rows.timesApartRow.laid w) false (World.laidAll Tryz.prog os Rows.timesApartRow.laid) #[V 0 0 ⟨#[]⟩] 8 (World.laidAll_os _ _ _)
      (World.shaped_of_ZipB (by kernel_rfl) (by kernel_rfl)) (by kernel_rfl) (by kernel_rfl) (by kernel_rfl)
      (by rw [MakeChecks.laidMetH_plain _ _ _ (by kernel_rfl)]; exact laidMet_laidAll _ (by kernel_rfl) (by kernel_rfl))) ?_
  intro W base args ds gs before hval0 hW _ _ hL _
  have hval : ∀ (j : Nat) t v, Tryz.f3.params[j]? = some t → args[j]? = some v → Value.okWide Tryz.prog W .any base t v := hval0
  have hW' := hW
  obtain ⟨p, q, hA0, hV, rfl, hfz, hnd⟩ := hW
  have hA : DataW.TrodAll enc Tryz.prog W 0 (fun _ => true) true Tryz.f3.params.toList args.toList ds p := hA0
  rw [Tryz.params3] at hA hval
  obtain ⟨v0, vs0, d0, ds0, p0, q0, hargs, rfl, rfl, h0, r0⟩ := trodAll_cons hA
  obtain ⟨rfl, rfl, rfl⟩ := trodAll_nil r0
  obtain rfl : args = #[v0] := by cases args; simp_all
  obtain ⟨rfl, rfl⟩ := trodVars_none hV
  have k0 := h0
  have lt0 : ∀ x ∈ p0, x.block < W.heap.size := by obtain ⟨m, hm⟩ := k0; exact DataW.trod_lt m _ _ _ hm
  obtain ⟨k, b, s, rfl, hk, b0, b1, hs⟩ := open_V (hval 0 25 v0 rfl rfl) h0
  obtain ⟨hT, hU⟩ := of_laid hL
  clear hA0 hval0 hL
  refine (walk k b s W b0 b1 hk hs hT hU).mono fun e W' ⟨he, bel⟩ => ?_
  subst he
  exact ⟨_, rfl, _, _, _, [], _, [], hW', trodAll_mk1 (shut_bool Tryz.underlying4 _), (trodAll_cons_mk (Below.trod laidOut (by kernel_rfl) (of_decide_eq_true (by kernel_rfl)) k0 bel lt0) trodAll_mk0), rfl, bel.frame _, fun h => by cases h⟩
theorem row_holds : Rows.TimesApartSaid :=
  OpenClaim.holds_of_wide 3 Tryz.f3 rfl rfl rfl rfl rfl rfl rfl ⟨rfl, rfl, rfl, rfl, rfl⟩ rfl rfl rfl rfl rfl (by kernel_rfl) Tryz.func3 (by kernel_rfl)
    (of_decide_eq_true (by kernel_rfl)) (by unfold Func.isWrapper; first | (rw [if_pos (by decide +kernel)]; kernel_rfl) | (rw [if_neg (by decide +kernel)]; exact ⟨rfl, rfl⟩))
    (fun os started H enc _ => lifted os started H enc)
end Go.Proofs.YtfihbpglnnheiaaGreatDoor.LawTimesApart
namespace Go.Proofs.YtfihbpglnnheiaaGreatDoor
/-- THE STATEMENT, ITS TABLES TIED TO THE TEXTS. -/
theorem timesApart_proved : Rows.TimesApartCardSaid :=
  Claim7.holds_tied_plain_at .later [] [.data, .data, .data, .data, .data, .data, .pinned, .pinned] true (true, "67da2be3e2303d7bbca3a48f3aee162c3e690fbe0a20861cc59dda8cdb49cc49") false
    LawTimesApart.row_holds (fun _ h => by cases h) (by kernel_rfl) (fun _ h => by cases h) timesApart_row_tie rfl ⟨rfl, rfl⟩ (by kernel_rfl) rfl
    (fun f fn hf hfn => by
      obtain rfl : f = 3 := Option.some.inj ((show Tryz.prog.funcNamed "relay/relaylaw02.TimesApart" = some 3 by kernel_rfl).symm.trans hf) |>.symm
      obtain rfl : fn = Tryz.f3 := (Option.some.inj (Tryz.func3.symm.trans hfn)).symm
      exact ⟨by kernel_rfl, fun j t ht => by
        rw [Tryz.params3] at ht
        have hm : t ∈ [25] := by simpa using Array.mem_of_getElem? ht
        have hall : ([25].all fun u => !Tryz.prog.wantsStandIn u) = true := by kernel_rfl
        exact (show Tryz.prog.wantsStandIn t = false by simpa using List.all_eq_true.1 hall t hm)⟩)
    (by kernel_rfl)
end Go.Proofs.YtfihbpglnnheiaaGreatDoor
