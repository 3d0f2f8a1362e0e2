/- Which cells a block takes; no statement of the seat is proved here. -/
import Derived.Test.YtjnegbjgogkamaaDoorBlkT
import Derived.Test.YtjnegbjgogkamaaDoorMayV
import Derived.Test.YtjnegbjgogkamaaDoorSubG
namespace Go.Proofs.YtjnegbjgogkamaaDoor
set_option linter.unusedVariables false
open Go.RowKit
/-- The kind that a letter means. -/
def kdN (c : Nat) : Int := if c = 66 then 1 else if c = 73 then 3 else 14
/-- The kind of a block's variable of a number. -/
def kAt (ks : ByteArray) (i : Nat) : Int := if h : i < ks.size then kdN ks[i].toNat else 14
theorem kAt_in (ks : ByteArray) (i : Nat) (h : i < ks.size) : kAt ks i = kdN ks[i].toNat := by simp [kAt, h]
theorem kdN_cases (c : Nat) : kdN c = 1 ∨ kdN c = 3 ∨ kdN c = 14 := by unfold kdN; by_cases a : c = 66 <;> by_cases b : c = 73 <;> simp [a, b]
theorem kAt_cases (ks : ByteArray) (i : Nat) : kAt ks i = 1 ∨ kAt ks i = 3 ∨ kAt ks i = 14 := by
  unfold kAt; split
  · exact kdN_cases _
  · exact .inr (.inr rfl)
theorem kd1 (n : Nat) (h : ((n : Int) == 66) = true) : 1 = kdN n := by simp at h; unfold kdN; rw [if_pos (by omega)]
theorem kd3 (n : Nat) (h : ((n : Int) == 66) = false) (g : ((n : Int) == 73) = true) : 3 = kdN n := by simp at h g; unfold kdN; rw [if_neg (by omega), if_pos (by omega)]
theorem kd14 (n : Nat) (h : ((n : Int) == 66) = false) (g : ((n : Int) == 73) = false) : 14 = kdN n := by simp at h g; unfold kdN; rw [if_neg (by omega), if_neg (by omega)]
set_option maxHeartbeats 1000000 in
theorem kind_of (nm names ks : ByteArray) (ins outs : Int) (fn : Value) (i : Nat) (w : World) (h : i < ks.size) :
    Calls Tryd.prog 28 #[BV nm names ks ins outs fn, .int .i64 i] w fun e w' => e = .returned (.int .u8 (kAt ks i)) ∧ Below w.heap.size w w' := by
  rw [kAt_in ks i h]
  have hi : (i : Int) < ks.size := by omega
  go_enter Tryd.func28, Tryd.ntmps28
  go_wp2
  all_goals
    go_ret
    refine ⟨ret_int ?_, (Below.refl _ _).alloc (Nat.le_refl _) _⟩
    first | exact kd1 _ ‹_› | exact kd3 _ ‹_› ‹_› | exact kd14 _ ‹_› ‹_›
/-- A value's parts. -/
structure Vl where
  k : Int
  b : Int
  s : ByteArray
/-- The parts are in their ranges. -/
structure VlOk (v : Vl) : Prop where
  k0 : 0 ≤ v.k
  k1 : v.k < 256
  b0 : 0 ≤ v.b
  b1 : v.b < 18446744073709551616
  s1 : v.s.size ≤ maxLen
/-- Values one behind the other in memory. -/
def VsAt (w : World) (a : Addr) (n : Nat) (v : Nat → Vl) : Prop := ∀ i, i < n → w.cell? (a.add (i * 3)) = some (.int .u8 (v i).k) ∧ w.cell? ⟨(a.add (i * 3)).block, (a.add (i * 3)).off + 1, none⟩ = some (.int .u64 (v i).b) ∧ w.cell? ⟨(a.add (i * 3)).block, (a.add (i * 3)).off + 2, none⟩ = some (.string (v i).s)
theorem VsAt.below {w wr : World} {a : Addr} {n : Nat} {v : Nat → Vl} (h : VsAt w a n v) (hb : Below w.heap.size w wr) : VsAt wr a n v := by
  intro i hi
  obtain ⟨h0, h1, h2⟩ := h i hi
  have z := block_lt_of_cell h0
  exact ⟨by rw [hb.cell z]; exact h0, by rw [hb.cell (p := ⟨(a.add (i * 3)).block, (a.add (i * 3)).off + 1, none⟩) z]; exact h1, by rw [hb.cell (p := ⟨(a.add (i * 3)).block, (a.add (i * 3)).off + 2, none⟩) z]; exact h2⟩
/-- The cells are of the kinds that a block has, and may be. -/
def tkB (ks : ByteArray) (v : Nat → Vl) (n : Nat) : Bool := decide (∀ i, i < n → (v i).k = kAt ks i ∧ may3 (v i).k (v i).b (v i).s = true)
theorem tkB_t {ks : ByteArray} {v : Nat → Vl} {n : Nat} (h : ∀ i, i < n → (v i).k = kAt ks i ∧ may3 (v i).k (v i).b (v i).s = true) : true = tkB ks v n := by unfold tkB; exact (decide_eq_true h).symm
theorem tkB_f {ks : ByteArray} {v : Nat → Vl} {n k : Nat} (hk : k < n) (h : ¬ ((v k).k = kAt ks k ∧ may3 (v k).k (v k).b (v k).s = true)) : false = tkB ks v n := by
  unfold tkB; exact (decide_eq_false (fun g => h (g k hk))).symm
/-- What a round needs of a block in its box. -/
structure BxAt (w : World) (g : Nat) (nm names ks : ByteArray) (ins outs : Int) (fn : Value) : Prop where
  c0 : w.cell? ⟨g, 0, none⟩ = some (.string nm)
  c1 : w.cell? ⟨g, 1, none⟩ = some (.string names)
  c2 : w.cell? ⟨g, 2, none⟩ = some (.string ks)
  c3 : w.cell? ⟨g, 3, none⟩ = some (.int .i64 ins)
  c4 : w.cell? ⟨g, 4, none⟩ = some (.int .i64 outs)
  c5 : w.cell? ⟨g, 5, none⟩ = some fn
theorem BxAt.below {w wr : World} {g : Nat} {nm names ks : ByteArray} {ins outs : Int} {fn : Value} (h : BxAt w g nm names ks ins outs fn) (hb : Below w.heap.size w wr) : BxAt wr g nm names ks ins outs fn := by
  have z := block_lt_of_cell h.c0
  exact ⟨(hb.cell (p := ⟨g, 0, none⟩) z).trans h.c0, (hb.cell (p := ⟨g, 1, none⟩) z).trans h.c1, (hb.cell (p := ⟨g, 2, none⟩) z).trans h.c2, (hb.cell (p := ⟨g, 3, none⟩) z).trans h.c3, (hb.cell (p := ⟨g, 4, none⟩) z).trans h.c4, (hb.cell (p := ⟨g, 5, none⟩) z).trans h.c5⟩
set_option maxHeartbeats 2000000 in
theorem takes_yes (nm names ks : ByteArray) (ins outs : Int) (fn : Value) (a : Addr) (n cap : Nat) (v : Nat → Vl) (w : World) (hv : VsAt w a n v) (ho : ∀ i, i < n → VlOk (v i)) (hn : n = ks.size) (hm : ks.size ≤ 100) :
    Calls Tryd.prog 32 #[BV nm names ks ins outs fn, .slice (some a) n cap] w fun e w' => e = .returned (.bool (tkB ks v n)) ∧ Below w.heap.size w w' := by
  subst hn
  have HV : Hid (VsAt w a ks.size v) := hv
  have HO : Hid (∀ i, i < ks.size → VlOk (v i)) := ho
  clear hv ho
  go_enter Tryd.func32, Tryd.ntmps32
  go_wp2
  go_loopw [15] (fun i wr => ∃ k : Nat, k ≤ ks.size ∧ i = .int .i64 k ∧ Below w.heap.size w wr ∧ BxAt wr w.heap.size nm names ks ins outs fn ∧ ∀ j, j < k → (v j).k = kAt ks j ∧ may3 (v j).k (v j).b (v j).s = true) (fun i _ => ks.size - (intOf i).toNat)
  case atStart => exact ⟨0, Nat.zero_le _, rfl, (Below.refl _ _).alloc (Nat.le_refl _) _, ⟨by simp, by simp, by simp, by simp, by simp, by simp⟩, fun j hj => absurd hj (Nat.not_lt_zero _)⟩
  case round =>
    obtain ⟨k, hk, rfl, hb, hx, hall⟩ := hrel
    by_cases hlt : k < ks.size
    · obtain ⟨d0, d1, d2⟩ := HV.out.below hb k hlt
      have O : Hid _ := HO.out k hlt
      have HX : Hid _ := hx
      have HB : Hid _ := hb
      have HA : Hid _ := hall
      have z : w.heap.size < wr.heap.size := block_lt_of_cell hx.c0
      obtain ⟨c0, c1, c2, c3, c4, c5⟩ := hx
      clear hb hall
      have zz : ¬ w.heap.size = wr.heap.size := by omega
      generalize hvk : v k = vk at *
      obtain ⟨vk, vb, vs⟩ := vk
      by_cases e : vk = kAt ks k
      · have e1 : (vk != kAt ks k) = false := by simpa using e
        have e2 : (vk == kAt ks k) = true := by simpa using e
        have E : Hid (vk = kAt ks k) := e
        clear e
        cases m : may3 vk vb vs
        · have M : Hid (may3 vk vb vs = false) := m
          go_wp2_with fail
          refine wp_region_sub2 (by kernel_rfl) (by kernel_rfl) ?_
          intro cx
          repeat (first | go_big_quiet_skip | (go_big_quiet_want; go_big_quiet_op; first | go_big_quiet_on | (refine ⟨_, fun _ => rfl, ?_⟩; go_big_quiet_on) | go_big_quiet_call (first | (go_at_call 28; exact calls_sub (kind_of _ _ _ _ _ _ _ _ hlt)) | (go_at_call 53; exact calls_sub (May_of _ _ _ _ O.out.b0 O.out.b1 ⟨O.out.k0, O.out.k1⟩ O.out.s1)))))
          refine wpQuiet_nil ?_
          rintro _ ⟨y, rfl⟩
          have Y : Hid (Below wr.heap.size wr y.w) := ((Below.refl _ _).alloc (Nat.le_refl _) _).trans (y.h.mono (by simp))
          clear cx
          go_wp2
          go_ret
          exact ⟨ret_bool (tkB_f hlt (by rw [hvk, M.out]; simp)), HB.out.trans (Y.out.mono HB.out.size)⟩
        · have M : Hid (may3 vk vb vs = true) := m
          go_wp2_with fail
          refine wp_region_sub2 (by kernel_rfl) (by kernel_rfl) ?_
          intro cx
          repeat (first | go_big_quiet_skip | (go_big_quiet_want; go_big_quiet_op; first | go_big_quiet_on | (refine ⟨_, fun _ => rfl, ?_⟩; go_big_quiet_on) | go_big_quiet_call (first | (go_at_call 28; exact calls_sub (kind_of _ _ _ _ _ _ _ _ hlt)) | (go_at_call 53; exact calls_sub (May_of _ _ _ _ O.out.b0 O.out.b1 ⟨O.out.k0, O.out.k1⟩ O.out.s1)))))
          refine wpQuiet_nil ?_
          rintro _ ⟨y, rfl⟩
          have Y : Hid (Below wr.heap.size wr y.w) := ((Below.refl _ _).alloc (Nat.le_refl _) _).trans (y.h.mono (by simp))
          clear cx
          go_wp2
          go_roundw
          case rel =>
            refine ⟨k + 1, by omega, by go_num, HB.out.trans (Y.out.mono HB.out.size), HX.out.below Y.out, fun j hj => ?_⟩
            rcases Nat.lt_succ_iff_lt_or_eq.1 hj with h | rfl
            · exact HA.out j h
            · rw [hvk]; exact ⟨E.out, M.out⟩
          case measure => simp [intOf]; omega
      · have e1 : (vk != kAt ks k) = true := by simpa using e
        have e2 : (vk == kAt ks k) = false := by simpa using e
        have E : Hid (¬ vk = kAt ks k) := e
        clear e
        go_wp2_with fail
        refine wp_region_sub2 (by kernel_rfl) (by kernel_rfl) ?_
        intro cx
        repeat (first | go_big_quiet_skip | (go_big_quiet_want; go_big_quiet_op; first | go_big_quiet_on | (refine ⟨_, fun _ => rfl, ?_⟩; go_big_quiet_on) | go_big_quiet_call (first | (go_at_call 28; exact calls_sub (kind_of _ _ _ _ _ _ _ _ hlt)) | (go_at_call 53; exact calls_sub (May_of _ _ _ _ O.out.b0 O.out.b1 ⟨O.out.k0, O.out.k1⟩ O.out.s1)))))
        refine wpQuiet_nil ?_
        rintro _ ⟨y, rfl⟩
        have Y : Hid (Below wr.heap.size wr y.w) := ((Below.refl _ _).alloc (Nat.le_refl _) _).trans (y.h.mono (by simp))
        clear cx
        go_wp2
        go_ret
        exact ⟨ret_bool (tkB_f hlt (by rw [hvk]; exact fun g => E.out g.1)), HB.out.trans (Y.out.mono HB.out.size)⟩
    · have ek : k = ks.size := by omega
      have HB : Hid _ := hb
      have HA : Hid _ := hall
      clear hb hall hx
      go_wp2
      go_ret
      exact ⟨ret_bool (tkB_t (fun j hj => HA.out j (by omega))), HB.out⟩
end Go.Proofs.YtjnegbjgogkamaaDoor
