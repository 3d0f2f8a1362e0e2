/- Texts in a row, compared; no statement of the seat is proved here. -/
import Derived.Test.YtcoeinfopfcekaaSubG
import Derived.Handy
namespace Go.Proofs.Ytcoeinfopfcekaa
set_option linter.unusedVariables false
open Go.RowKit
theorem ba_ext {a b : ByteArray} (h : a.toList = b.toList) : a = b := by
  cases a with
  | mk x =>
    cases b with
    | mk y =>
      rw [ByteArray.toList_eq, ByteArray.toList_eq] at h
      exact congrArg ByteArray.mk (Array.toList_inj.1 h)
theorem msr {k n : Nat} (h : k < n) : n - (intOf (.int .i64 ((k : Int) + 1))).toNat < n - (intOf (.int .i64 (k : Int))).toNat := by
  show n - ((k : Int) + 1).toNat < n - ((k : Int)).toNat
  omega
/-- Texts in a row. -/
def NmAt (w : World) (x : Option Addr) (l : List ByteArray) : Prop := (x = none → l = []) ∧ ∀ a, x = some a → ∀ i s, l[i]? = some s → w.cell? (a.add i) = some (.string s)
theorem NmAt.some {w : World} {x : Option Addr} {l : List ByteArray} (h : NmAt w x l) (hl : 0 < l.length) : ∃ a, x = .some a := by
  cases x with
  | none => rw [h.1 rfl] at hl; exact absurd hl (by decide)
  | some a => exact ⟨a, rfl⟩
theorem NmAt.cell {w : World} {a : Addr} {l : List ByteArray} (h : NmAt w (Option.some a) l) (k : Nat) (hk : k < l.length) : ∃ s, l[k]? = Option.some s ∧ w.cell? (a.add k) = Option.some (.string s) := ⟨l[k], List.getElem?_eq_getElem hk, h.2 a rfl k _ (List.getElem?_eq_getElem hk)⟩
theorem NmAt.below {w w' : World} {x : Option Addr} {l : List ByteArray} (h : NmAt w x l) (hb : Below w.heap.size w w') : NmAt w' x l := ⟨h.1, fun a e i s hs => by have c := h.2 a e i s hs; exact (hb.cell (block_lt_of_cell c)).trans c⟩
set_option maxHeartbeats 2000000 in
theorem EqualT (x y : Option Addr) (l l' : List ByteArray) (c d : Nat) (w : World) (ha : NmAt w x l) (hb : NmAt w y l') (hl : l.length < 1099511627776) :
    Calls Try.prog 23 #[.slice x l.length c, .slice y l'.length d] w fun e w' => e = .returned (.bool (decide (l = l'))) ∧ Below w.heap.size w w' := by
  have HA : Hid (NmAt w x l) := ha
  have HB : Hid (NmAt w y l') := hb
  have HL : Hid _ := hl
  clear ha hb hl
  by_cases el : l.length = l'.length
  · have el' : ((l.length : Int) == (l'.length : Int)) = true := by rw [beq_iff_eq]; omega
    have el2 : ((l.length : Int) != (l'.length : Int)) = false := by simp [bne, el']
    have EL : Hid _ := el
    generalize hn : l'.length = n at *
    have HN : Hid _ := hn
    clear hn
    subst el
    clear el' el2
    go_enter Try.func23, Try.ntmps23
    go_wp2_with fail
    go_loopw [13] (fun i wr => ∃ k : Nat, k ≤ l.length ∧ i = .int .i64 k ∧ Below w.heap.size w wr ∧ ∀ j, j < k → l[j]? = l'[j]?) (fun i _ => l.length - (intOf i).toNat)
    case atStart => exact ⟨0, Nat.zero_le _, rfl, Below.refl _ _, fun j hj => absurd hj (Nat.not_lt_zero _)⟩
    case round =>
      obtain ⟨k, hk, rfl, hbw, hall⟩ := hrel
      have HW : Hid (Below w.heap.size w wr) := hbw
      have AL : Hid _ := hall
      clear hall
      by_cases hlt : k < l.length
      · obtain ⟨a, rfl⟩ := HA.out.some (by omega)
        obtain ⟨b, rfl⟩ := HB.out.some (by have := HN.out; omega)
        obtain ⟨s, es, e0⟩ := HA.out.cell k hlt
        obtain ⟨t, et, e1⟩ := HB.out.cell k (by have := HN.out; omega)
        have e0 := (hbw.cell (block_lt_of_cell e0)).trans e0
        have e1 := (hbw.cell (block_lt_of_cell e1)).trans e1
        have ES : Hid (l[k]? = some s) := es
        have ET : Hid (l'[k]? = some t) := et
        have LT : Hid _ := hlt
        have kl : (k : Int) < l.length := by omega
        clear hbw es et hlt
        have za := block_lt_of_cell e0
        have zb := block_lt_of_cell e1
        by_cases q : s = t
        · subst q
          go_wp2_with fail
          have cy : ∀ x : Sub wr, x.w.cell? (a.add k) = some (.string s) := fun x => (x.h.cell za).trans e0
          have cz : ∀ x : Sub wr, x.w.cell? (b.add k) = some (.string s) := fun x => (x.h.cell zb).trans e1
          refine wp_region_sub2 (by kernel_rfl) (by kernel_rfl) ?_
          intro cx
          repeat (first | go_big_quiet_skip | (go_big_quiet_want; go_big_quiet_op; first | go_big_quiet_on | (refine ⟨_, fun _ => rfl, ?_⟩; go_big_quiet_on)))
          refine wpQuiet_nil ?_
          rintro _ ⟨y, rfl⟩
          have Y : Hid (Below wr.heap.size wr y.w) := y.h
          clear cx cy cz
          have ew : wrap64 ((k : Int) + 1) = (k : Int) + 1 := by have := HL.out; have := LT.out; unfold wrap64; omega
          go_wp2
          rw [ew]
          exact ⟨⟨k + 1, Nat.succ_le_of_lt LT.out, rfl, HW.out.trans (Y.out.mono HW.out.size), fun j hj => by rcases Nat.lt_succ_iff_lt_or_eq.1 hj with h | rfl; exact AL.out j h; exact ES.out.trans ET.out.symm⟩, msr LT.out⟩
        · have sq : (s.toList == t.toList) = false := by
            apply Bool.eq_false_iff.2
            intro e
            exact q (ba_ext (by simpa using e))
          have sq2 : (s.toList != t.toList) = true := by simp [bne, sq]
          have Q : Hid _ := q
          clear q
          go_wp2_with fail
          have cy : ∀ x : Sub wr, x.w.cell? (a.add k) = some (.string s) := fun x => (x.h.cell za).trans e0
          have cz : ∀ x : Sub wr, x.w.cell? (b.add k) = some (.string t) := fun x => (x.h.cell zb).trans e1
          refine wp_region_sub2 (by kernel_rfl) (by kernel_rfl) ?_
          intro cx
          repeat (first | go_big_quiet_skip | (go_big_quiet_want; go_big_quiet_op; first | go_big_quiet_on | (refine ⟨_, fun _ => rfl, ?_⟩; go_big_quiet_on)))
          refine wpQuiet_nil ?_
          rintro _ ⟨y, rfl⟩
          have Y : Hid (Below w.heap.size w y.w) := HW.out.trans (y.h.mono HW.out.size)
          clear cx cy cz
          have ed : decide (l = l') = false := decide_eq_false fun e => Q.out (by have a := ES.out; rw [e, ET.out] at a; exact (Option.some.inj a).symm)
          go_wp2
          go_ret
          exact ⟨by first | rfl | (rw [ed]; rfl), Y.out⟩
      · have kl : ¬ (k : Int) < l.length := by omega
        have ed : decide (l = l') = true := decide_eq_true (List.ext_getElem? fun j => by
          by_cases hj : j < k
          · exact AL.out j hj
          · have := HN.out
            rw [List.getElem?_eq_none (by omega), List.getElem?_eq_none (by omega)])
        clear hbw hlt
        go_wp2
        go_ret
        exact ⟨by first | rfl | (rw [ed]; rfl), HW.out⟩
  · have el' : ((l.length : Int) == (l'.length : Int)) = false := by rw [beq_eq_false_iff_ne]; omega
    have el2 : ((l.length : Int) != (l'.length : Int)) = true := by simp [bne, el']
    have ed : decide (l = l') = false := decide_eq_false fun e => el (by rw [e])
    clear el
    go_enter Try.func23, Try.ntmps23
    go_wp2
    go_ret
    exact ⟨by first | rfl | (rw [ed]; rfl), Below.refl _ _⟩
set_option maxHeartbeats 2000000 in
theorem textsR (x y : Option Addr) (l l' : List ByteArray) (c d : Nat) (w : World) (ha : NmAt w x l) (hb : NmAt w y l') (hl : l.length < 1099511627776) :
    Calls Try.prog 33 #[.slice x l.length c, .slice y l'.length d] w fun e w' => e = .returned (.bool (decide (l = l'))) ∧ Below w.heap.size w w' := by
  have HA : Hid (NmAt w x l) := ha
  have HB : Hid (NmAt w y l') := hb
  have HL : Hid _ := hl
  clear ha hb hl
  by_cases el : l.length = l'.length
  · have el' : ((l.length : Int) == (l'.length : Int)) = true := by rw [beq_iff_eq]; omega
    have el2 : ((l.length : Int) != (l'.length : Int)) = false := by simp [bne, el']
    have EL : Hid _ := el
    generalize hn : l'.length = n at *
    have HN : Hid _ := hn
    clear hn
    subst el
    clear el' el2
    go_enter Try.func33, Try.ntmps33
    go_wp2_with fail
    go_loopw [13] (fun i wr => ∃ k : Nat, k ≤ l.length ∧ i = .int .i64 k ∧ Below w.heap.size w wr ∧ ∀ j, j < k → l[j]? = l'[j]?) (fun i _ => l.length - (intOf i).toNat)
    case atStart => exact ⟨0, Nat.zero_le _, rfl, Below.refl _ _, fun j hj => absurd hj (Nat.not_lt_zero _)⟩
    case round =>
      obtain ⟨k, hk, rfl, hbw, hall⟩ := hrel
      have HW : Hid (Below w.heap.size w wr) := hbw
      have AL : Hid _ := hall
      clear hall
      by_cases hlt : k < l.length
      · obtain ⟨a, rfl⟩ := HA.out.some (by omega)
        obtain ⟨b, rfl⟩ := HB.out.some (by have := HN.out; omega)
        obtain ⟨s, es, e0⟩ := HA.out.cell k hlt
        obtain ⟨t, et, e1⟩ := HB.out.cell k (by have := HN.out; omega)
        have e0 := (hbw.cell (block_lt_of_cell e0)).trans e0
        have e1 := (hbw.cell (block_lt_of_cell e1)).trans e1
        have ES : Hid (l[k]? = some s) := es
        have ET : Hid (l'[k]? = some t) := et
        have LT : Hid _ := hlt
        have kl : (k : Int) < l.length := by omega
        clear hbw es et hlt
        have za := block_lt_of_cell e0
        have zb := block_lt_of_cell e1
        by_cases q : s = t
        · subst q
          go_wp2_with fail
          have cy : ∀ x : Sub wr, x.w.cell? (a.add k) = some (.string s) := fun x => (x.h.cell za).trans e0
          have cz : ∀ x : Sub wr, x.w.cell? (b.add k) = some (.string s) := fun x => (x.h.cell zb).trans e1
          refine wp_region_sub2 (by kernel_rfl) (by kernel_rfl) ?_
          intro cx
          repeat (first | go_big_quiet_skip | (go_big_quiet_want; go_big_quiet_op; first | go_big_quiet_on | (refine ⟨_, fun _ => rfl, ?_⟩; go_big_quiet_on)))
          refine wpQuiet_nil ?_
          rintro _ ⟨y, rfl⟩
          have Y : Hid (Below wr.heap.size wr y.w) := y.h
          clear cx cy cz
          have ew : wrap64 ((k : Int) + 1) = (k : Int) + 1 := by have := HL.out; have := LT.out; unfold wrap64; omega
          go_wp2
          rw [ew]
          exact ⟨⟨k + 1, Nat.succ_le_of_lt LT.out, rfl, HW.out.trans (Y.out.mono HW.out.size), fun j hj => by rcases Nat.lt_succ_iff_lt_or_eq.1 hj with h | rfl; exact AL.out j h; exact ES.out.trans ET.out.symm⟩, msr LT.out⟩
        · have sq : (s.toList == t.toList) = false := by
            apply Bool.eq_false_iff.2
            intro e
            exact q (ba_ext (by simpa using e))
          have sq2 : (s.toList != t.toList) = true := by simp [bne, sq]
          have Q : Hid _ := q
          clear q
          go_wp2_with fail
          have cy : ∀ x : Sub wr, x.w.cell? (a.add k) = some (.string s) := fun x => (x.h.cell za).trans e0
          have cz : ∀ x : Sub wr, x.w.cell? (b.add k) = some (.string t) := fun x => (x.h.cell zb).trans e1
          refine wp_region_sub2 (by kernel_rfl) (by kernel_rfl) ?_
          intro cx
          repeat (first | go_big_quiet_skip | (go_big_quiet_want; go_big_quiet_op; first | go_big_quiet_on | (refine ⟨_, fun _ => rfl, ?_⟩; go_big_quiet_on)))
          refine wpQuiet_nil ?_
          rintro _ ⟨y, rfl⟩
          have Y : Hid (Below w.heap.size w y.w) := HW.out.trans (y.h.mono HW.out.size)
          clear cx cy cz
          have ed : decide (l = l') = false := decide_eq_false fun e => Q.out (by have a := ES.out; rw [e, ET.out] at a; exact (Option.some.inj a).symm)
          go_wp2
          go_ret
          exact ⟨by first | rfl | (rw [ed]; rfl), Y.out⟩
      · have kl : ¬ (k : Int) < l.length := by omega
        have ed : decide (l = l') = true := decide_eq_true (List.ext_getElem? fun j => by
          by_cases hj : j < k
          · exact AL.out j hj
          · have := HN.out
            rw [List.getElem?_eq_none (by omega), List.getElem?_eq_none (by omega)])
        clear hbw hlt
        go_wp2
        go_ret
        exact ⟨by first | rfl | (rw [ed]; rfl), HW.out⟩
  · have el' : ((l.length : Int) == (l'.length : Int)) = false := by rw [beq_eq_false_iff_ne]; omega
    have el2 : ((l.length : Int) != (l'.length : Int)) = true := by simp [bne, el']
    have ed : decide (l = l') = false := decide_eq_false fun e => el (by rw [e])
    clear el
    go_enter Try.func33, Try.ntmps33
    go_wp2
    go_ret
    exact ⟨by first | rfl | (rw [ed]; rfl), Below.refl _ _⟩
end Go.Proofs.Ytcoeinfopfcekaa
