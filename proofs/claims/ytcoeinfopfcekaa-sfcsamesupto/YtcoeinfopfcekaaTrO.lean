/- Rows of ranges compared; no statement of the seat is proved here. -/
import Derived.Test.YtcoeinfopfcekaaTrN
namespace Go.Proofs.Ytcoeinfopfcekaa
set_option linter.unusedVariables false
open Go.RowKit
theorem RgAt.some {w : World} {x : Option Addr} {l : List (Int × Int)} (h : RgAt w x l) (hl : 0 < l.length) : ∃ a, x = .some a := by
  cases x with
  | none => rw [h.1 rfl] at hl; exact absurd hl (by decide)
  | some a => exact ⟨a, rfl⟩
theorem rgE_t (s : Int × Int) (w : World) : (binOp .eql 68 (.agg #[.int .i64 s.1, .int .i64 s.2]) (.agg #[.int .i64 s.1, .int .i64 s.2])).run Try.prog w = .ok (.bool true) w := by simp [go_sem]
theorem rgN_t (s : Int × Int) (w : World) : (binOp .neq 68 (.agg #[.int .i64 s.1, .int .i64 s.2]) (.agg #[.int .i64 s.1, .int .i64 s.2])).run Try.prog w = .ok (.bool false) w := by simp [go_sem]
theorem rgE_f (s t : Int × Int) (h : ¬ s = t) (w : World) : (binOp .eql 68 (.agg #[.int .i64 s.1, .int .i64 s.2]) (.agg #[.int .i64 t.1, .int .i64 t.2])).run Try.prog w = .ok (.bool false) w := by
  have : ¬ (s.1 = t.1 ∧ s.2 = t.2) := fun q => h (Prod.ext q.1 q.2)
  by_cases a : s.1 = t.1
  · have b : ¬ s.2 = t.2 := fun q => this ⟨a, q⟩
    simp [go_sem, a, b]
  · simp [go_sem, a]
theorem rgN_f (s t : Int × Int) (h : ¬ s = t) (w : World) : (binOp .neq 68 (.agg #[.int .i64 s.1, .int .i64 s.2]) (.agg #[.int .i64 t.1, .int .i64 t.2])).run Try.prog w = .ok (.bool true) w := by
  have : ¬ (s.1 = t.1 ∧ s.2 = t.2) := fun q => h (Prod.ext q.1 q.2)
  by_cases a : s.1 = t.1
  · have b : ¬ s.2 = t.2 := fun q => this ⟨a, q⟩
    simp [go_sem, a, b]
  · simp [go_sem, a]
set_option maxHeartbeats 2000000 in
theorem EqualG (x y : Option Addr) (l l' : List (Int × Int)) (c d : Nat) (w : World) (ha : RgAt w x l) (hb : RgAt w y l') (hl : l.length < 1099511627776) :
    Calls Try.prog 36 #[.slice x l.length c, .slice y l'.length d] w fun e w' => e = .returned (.bool (decide (l = l'))) ∧ Below w.heap.size w w' := by
  have HA : Hid (RgAt w x l) := ha
  have HB : Hid (RgAt w y l') := hb
  have HL : Hid _ := hl
  clear ha hb hl
  by_cases el : l.length = l'.length
  · have el' : ((l.length : Int) == (l'.length : Int)) = true := by rw [beq_iff_eq]; omega
    have el2 : ((l.length : Int) != (l'.length : Int)) = false := by simp [bne, el']
    have EL : Hid _ := el
    generalize hn : l'.length = n at *
    have HN : Hid _ := hn
    clear hn
    subst el
    clear el' el2
    go_enter Try.func36, Try.ntmps36
    go_wp2_with fail
    go_loopw [13] (fun i wr => ∃ k : Nat, k ≤ l.length ∧ i = .int .i64 k ∧ Below w.heap.size w wr ∧ ∀ j, j < k → l[j]? = l'[j]?) (fun i _ => l.length - (intOf i).toNat)
    case atStart => exact ⟨0, Nat.zero_le _, rfl, Below.refl _ _, fun j hj => absurd hj (Nat.not_lt_zero _)⟩
    case round =>
      obtain ⟨k, hk, rfl, hbw, hall⟩ := hrel
      have HW : Hid (Below w.heap.size w wr) := hbw
      have AL : Hid _ := hall
      clear hall
      by_cases hlt : k < l.length
      · obtain ⟨a, rfl⟩ := HA.out.some (by omega)
        obtain ⟨b, rfl⟩ := HB.out.some (by have := HN.out; omega)
        obtain ⟨s, es, e0, e2⟩ := HA.out.cell k hlt
        obtain ⟨t, et, e1, e3⟩ := HB.out.cell k (by have := HN.out; omega)
        have e0 := (hbw.cell (block_lt_of_cell e0)).trans e0
        have e1 := (hbw.cell (block_lt_of_cell e1)).trans e1
        have e2 := (hbw.cell (block_lt_of_cell e2)).trans e2
        have e3 := (hbw.cell (block_lt_of_cell e3)).trans e3
        have ES : Hid (l[k]? = some s) := es
        have ET : Hid (l'[k]? = some t) := et
        have LT : Hid _ := hlt
        have kl : (k : Int) < l.length := by omega
        clear hbw es et hlt
        have za := block_lt_of_cell e0
        have zb := block_lt_of_cell e1
        by_cases q : s = t
        · subst q
          have f1 := rgE_t s
          have f2 := rgN_t s
          go_wp2_with fail
          have cy : ∀ x : Sub wr, x.w.cell? (a.add (k * 2)) = some (.int .i64 s.1) := fun x => (x.h.cell za).trans e0
          have cy' : ∀ x : Sub wr, x.w.cell? ⟨(a.add (k * 2)).block, (a.add (k * 2)).off + 1, none⟩ = some (.int .i64 s.2) := fun x => (x.h.cell (p := ⟨(a.add (k * 2)).block, (a.add (k * 2)).off + 1, none⟩) za).trans e2
          have cz : ∀ x : Sub wr, x.w.cell? (b.add (k * 2)) = some (.int .i64 s.1) := fun x => (x.h.cell zb).trans e1
          have cz' : ∀ x : Sub wr, x.w.cell? ⟨(b.add (k * 2)).block, (b.add (k * 2)).off + 1, none⟩ = some (.int .i64 s.2) := fun x => (x.h.cell (p := ⟨(b.add (k * 2)).block, (b.add (k * 2)).off + 1, none⟩) zb).trans e3
          refine wp_region_sub2 (by kernel_rfl) (by kernel_rfl) ?_
          intro cx
          repeat (first | go_big_quiet_skip | (go_big_quiet_want; go_big_quiet_op; first | go_big_quiet_on | (refine ⟨_, fun _ => rfl, ?_⟩; go_big_quiet_on)))
          refine wpQuiet_nil ?_
          rintro _ ⟨y, rfl⟩
          have Y : Hid (Below wr.heap.size wr y.w) := y.h
          clear cx cy cz cy' cz'
          have ew : wrap64 ((k : Int) + 1) = (k : Int) + 1 := by have := HL.out; have := LT.out; unfold wrap64; omega
          go_wp2
          rw [ew]
          exact ⟨⟨k + 1, Nat.succ_le_of_lt LT.out, rfl, HW.out.trans (Y.out.mono HW.out.size), fun j hj => by rcases Nat.lt_succ_iff_lt_or_eq.1 hj with h | rfl; exact AL.out j h; exact ES.out.trans ET.out.symm⟩, msr LT.out⟩
        · have f1 := rgE_f s t q
          have f2 := rgN_f s t q
          have Q : Hid _ := q
          clear q
          go_wp2_with fail
          have cy : ∀ x : Sub wr, x.w.cell? (a.add (k * 2)) = some (.int .i64 s.1) := fun x => (x.h.cell za).trans e0
          have cy' : ∀ x : Sub wr, x.w.cell? ⟨(a.add (k * 2)).block, (a.add (k * 2)).off + 1, none⟩ = some (.int .i64 s.2) := fun x => (x.h.cell (p := ⟨(a.add (k * 2)).block, (a.add (k * 2)).off + 1, none⟩) za).trans e2
          have cz : ∀ x : Sub wr, x.w.cell? (b.add (k * 2)) = some (.int .i64 t.1) := fun x => (x.h.cell zb).trans e1
          have cz' : ∀ x : Sub wr, x.w.cell? ⟨(b.add (k * 2)).block, (b.add (k * 2)).off + 1, none⟩ = some (.int .i64 t.2) := fun x => (x.h.cell (p := ⟨(b.add (k * 2)).block, (b.add (k * 2)).off + 1, none⟩) zb).trans e3
          refine wp_region_sub2 (by kernel_rfl) (by kernel_rfl) ?_
          intro cx
          repeat (first | go_big_quiet_skip | (go_big_quiet_want; go_big_quiet_op; first | go_big_quiet_on | (refine ⟨_, fun _ => rfl, ?_⟩; go_big_quiet_on)))
          refine wpQuiet_nil ?_
          rintro _ ⟨y, rfl⟩
          have Y : Hid (Below w.heap.size w y.w) := HW.out.trans (y.h.mono HW.out.size)
          clear cx cy cz cy' cz'
          have ed : decide (l = l') = false := decide_eq_false fun e => Q.out (by have a := ES.out; rw [e, ET.out] at a; exact (Option.some.inj a).symm)
          go_wp2
          go_ret
          exact ⟨by first | rfl | (rw [ed]; rfl), Y.out⟩
      · have kl : ¬ (k : Int) < l.length := by omega
        have ed : decide (l = l') = true := decide_eq_true (List.ext_getElem? fun j => by
          by_cases hj : j < k
          · exact AL.out j hj
          · have := HN.out
            rw [List.getElem?_eq_none (by omega), List.getElem?_eq_none (by omega)])
        clear hbw hlt
        go_wp2
        go_ret
        exact ⟨by first | rfl | (rw [ed]; rfl), HW.out⟩
  · have el' : ((l.length : Int) == (l'.length : Int)) = false := by rw [beq_eq_false_iff_ne]; omega
    have el2 : ((l.length : Int) != (l'.length : Int)) = true := by simp [bne, el']
    have ed : decide (l = l') = false := decide_eq_false fun e => el (by rw [e])
    clear el
    go_enter Try.func36, Try.ntmps36
    go_wp2
    go_ret
    exact ⟨by first | rfl | (rw [ed]; rfl), Below.refl _ _⟩
set_option maxHeartbeats 2000000 in
theorem rangesR (x y : Option Addr) (l l' : List (Int × Int)) (c d : Nat) (w : World) (ha : RgAt w x l) (hb : RgAt w y l') (hl : l.length < 1099511627776) :
    Calls Try.prog 34 #[.slice x l.length c, .slice y l'.length d] w fun e w' => e = .returned (.bool (decide (l = l'))) ∧ Below w.heap.size w w' := by
  have HA : Hid (RgAt w x l) := ha
  have HB : Hid (RgAt w y l') := hb
  have HL : Hid _ := hl
  clear ha hb hl
  by_cases el : l.length = l'.length
  · have el' : ((l.length : Int) == (l'.length : Int)) = true := by rw [beq_iff_eq]; omega
    have el2 : ((l.length : Int) != (l'.length : Int)) = false := by simp [bne, el']
    have EL : Hid _ := el
    generalize hn : l'.length = n at *
    have HN : Hid _ := hn
    clear hn
    subst el
    clear el' el2
    go_enter Try.func34, Try.ntmps34
    go_wp2_with fail
    go_loopw [13] (fun i wr => ∃ k : Nat, k ≤ l.length ∧ i = .int .i64 k ∧ Below w.heap.size w wr ∧ ∀ j, j < k → l[j]? = l'[j]?) (fun i _ => l.length - (intOf i).toNat)
    case atStart => exact ⟨0, Nat.zero_le _, rfl, Below.refl _ _, fun j hj => absurd hj (Nat.not_lt_zero _)⟩
    case round =>
      obtain ⟨k, hk, rfl, hbw, hall⟩ := hrel
      have HW : Hid (Below w.heap.size w wr) := hbw
      have AL : Hid _ := hall
      clear hall
      by_cases hlt : k < l.length
      · obtain ⟨a, rfl⟩ := HA.out.some (by omega)
        obtain ⟨b, rfl⟩ := HB.out.some (by have := HN.out; omega)
        obtain ⟨s, es, e0, e2⟩ := HA.out.cell k hlt
        obtain ⟨t, et, e1, e3⟩ := HB.out.cell k (by have := HN.out; omega)
        have e0 := (hbw.cell (block_lt_of_cell e0)).trans e0
        have e1 := (hbw.cell (block_lt_of_cell e1)).trans e1
        have e2 := (hbw.cell (block_lt_of_cell e2)).trans e2
        have e3 := (hbw.cell (block_lt_of_cell e3)).trans e3
        have ES : Hid (l[k]? = some s) := es
        have ET : Hid (l'[k]? = some t) := et
        have LT : Hid _ := hlt
        have kl : (k : Int) < l.length := by omega
        clear hbw es et hlt
        have za := block_lt_of_cell e0
        have zb := block_lt_of_cell e1
        by_cases q : s = t
        · subst q
          have f1 := rgE_t s
          have f2 := rgN_t s
          go_wp2_with fail
          have cy : ∀ x : Sub wr, x.w.cell? (a.add (k * 2)) = some (.int .i64 s.1) := fun x => (x.h.cell za).trans e0
          have cy' : ∀ x : Sub wr, x.w.cell? ⟨(a.add (k * 2)).block, (a.add (k * 2)).off + 1, none⟩ = some (.int .i64 s.2) := fun x => (x.h.cell (p := ⟨(a.add (k * 2)).block, (a.add (k * 2)).off + 1, none⟩) za).trans e2
          have cz : ∀ x : Sub wr, x.w.cell? (b.add (k * 2)) = some (.int .i64 s.1) := fun x => (x.h.cell zb).trans e1
          have cz' : ∀ x : Sub wr, x.w.cell? ⟨(b.add (k * 2)).block, (b.add (k * 2)).off + 1, none⟩ = some (.int .i64 s.2) := fun x => (x.h.cell (p := ⟨(b.add (k * 2)).block, (b.add (k * 2)).off + 1, none⟩) zb).trans e3
          refine wp_region_sub2 (by kernel_rfl) (by kernel_rfl) ?_
          intro cx
          repeat (first | go_big_quiet_skip | (go_big_quiet_want; go_big_quiet_op; first | go_big_quiet_on | (refine ⟨_, fun _ => rfl, ?_⟩; go_big_quiet_on)))
          refine wpQuiet_nil ?_
          rintro _ ⟨y, rfl⟩
          have Y : Hid (Below wr.heap.size wr y.w) := y.h
          clear cx cy cz cy' cz'
          have ew : wrap64 ((k : Int) + 1) = (k : Int) + 1 := by have := HL.out; have := LT.out; unfold wrap64; omega
          go_wp2
          rw [ew]
          exact ⟨⟨k + 1, Nat.succ_le_of_lt LT.out, rfl, HW.out.trans (Y.out.mono HW.out.size), fun j hj => by rcases Nat.lt_succ_iff_lt_or_eq.1 hj with h | rfl; exact AL.out j h; exact ES.out.trans ET.out.symm⟩, msr LT.out⟩
        · have f1 := rgE_f s t q
          have f2 := rgN_f s t q
          have Q : Hid _ := q
          clear q
          go_wp2_with fail
          have cy : ∀ x : Sub wr, x.w.cell? (a.add (k * 2)) = some (.int .i64 s.1) := fun x => (x.h.cell za).trans e0
          have cy' : ∀ x : Sub wr, x.w.cell? ⟨(a.add (k * 2)).block, (a.add (k * 2)).off + 1, none⟩ = some (.int .i64 s.2) := fun x => (x.h.cell (p := ⟨(a.add (k * 2)).block, (a.add (k * 2)).off + 1, none⟩) za).trans e2
          have cz : ∀ x : Sub wr, x.w.cell? (b.add (k * 2)) = some (.int .i64 t.1) := fun x => (x.h.cell zb).trans e1
          have cz' : ∀ x : Sub wr, x.w.cell? ⟨(b.add (k * 2)).block, (b.add (k * 2)).off + 1, none⟩ = some (.int .i64 t.2) := fun x => (x.h.cell (p := ⟨(b.add (k * 2)).block, (b.add (k * 2)).off + 1, none⟩) zb).trans e3
          refine wp_region_sub2 (by kernel_rfl) (by kernel_rfl) ?_
          intro cx
          repeat (first | go_big_quiet_skip | (go_big_quiet_want; go_big_quiet_op; first | go_big_quiet_on | (refine ⟨_, fun _ => rfl, ?_⟩; go_big_quiet_on)))
          refine wpQuiet_nil ?_
          rintro _ ⟨y, rfl⟩
          have Y : Hid (Below w.heap.size w y.w) := HW.out.trans (y.h.mono HW.out.size)
          clear cx cy cz cy' cz'
          have ed : decide (l = l') = false := decide_eq_false fun e => Q.out (by have a := ES.out; rw [e, ET.out] at a; exact (Option.some.inj a).symm)
          go_wp2
          go_ret
          exact ⟨by first | rfl | (rw [ed]; rfl), Y.out⟩
      · have kl : ¬ (k : Int) < l.length := by omega
        have ed : decide (l = l') = true := decide_eq_true (List.ext_getElem? fun j => by
          by_cases hj : j < k
          · exact AL.out j hj
          · have := HN.out
            rw [List.getElem?_eq_none (by omega), List.getElem?_eq_none (by omega)])
        clear hbw hlt
        go_wp2
        go_ret
        exact ⟨by first | rfl | (rw [ed]; rfl), HW.out⟩
  · have el' : ((l.length : Int) == (l'.length : Int)) = false := by rw [beq_eq_false_iff_ne]; omega
    have el2 : ((l.length : Int) != (l'.length : Int)) = true := by simp [bne, el']
    have ed : decide (l = l') = false := decide_eq_false fun e => el (by rw [e])
    clear el
    go_enter Try.func34, Try.ntmps34
    go_wp2
    go_ret
    exact ⟨by first | rfl | (rw [ed]; rfl), Below.refl _ _⟩
end Go.Proofs.Ytcoeinfopfcekaa
