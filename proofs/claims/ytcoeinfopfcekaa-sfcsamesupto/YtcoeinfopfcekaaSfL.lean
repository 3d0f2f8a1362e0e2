/- Rows of records compared; no statement of the seat is proved here. -/
import Derived.Test.YtcoeinfopfcekaaSfA
import Derived.Test.YtcoeinfopfcekaaImK
namespace Go.Proofs.Ytcoeinfopfcekaa
set_option linter.unusedVariables false
open Go.RowKit
noncomputable instance : DecidableEq LkR := fun _ _ => Classical.propDecidable _
theorem neI_t (s : LkR) (w : World) : (binOp .neq 34 (.agg #[.int .i64 s.pl, .string s.ql, .int .i64 s.tm, .string s.nm]) (.agg #[.int .i64 s.pl, .string s.ql, .int .i64 s.tm, .string s.nm])).run Try.prog w = .ok (.bool false) w := by simp [go_sem]
theorem neI_f (s t : LkR) (h : ¬ s = t) (w : World) : (binOp .neq 34 (.agg #[.int .i64 s.pl, .string s.ql, .int .i64 s.tm, .string s.nm]) (.agg #[.int .i64 t.pl, .string t.ql, .int .i64 t.tm, .string t.nm])).run Try.prog w = .ok (.bool true) w := by
  cases s with | mk s0 s1 s2 s3 =>
  cases t with | mk t0 t1 t2 t3 =>
  by_cases e0 : s0 = t0
  case neg => simp [go_sem, e0]
  subst e0
  by_cases e1 : s1.toList = t1.toList
  case neg => simp [go_sem, e1]
  obtain rfl := ba_ext e1
  by_cases e2 : s2 = t2
  case neg => simp [go_sem, e2]
  subst e2
  by_cases e3 : s3.toList = t3.toList
  case neg => simp [go_sem, e3]
  obtain rfl := ba_ext e3
  exact absurd rfl h
set_option maxHeartbeats 4000000 in
theorem EqualI (x y : Option Addr) (l l' : List LkR) (c d : Nat) (w : World) {S : Nat → Prop} (hS : ∀ b, S b → b < w.heap.size) (ha : RwF 4 (Is lkC) S w x l) (hb : RwF 4 (Is lkC) S w y l') :
    Calls Try.prog 22 #[.slice x l.length c, .slice y l'.length d] w fun e w' => e = .returned (.bool (decide (l = l'))) ∧ Below w.heap.size w w' := by
  have HA : Hid (RwF 4 (Is lkC) S w x l) := ha
  have HB : Hid (RwF 4 (Is lkC) S w y l') := hb
  have HS : Hid _ := hS
  clear ha hb hS
  by_cases el : l.length = l'.length
  · generalize hn : l'.length = n at *
    have HN : Hid _ := hn
    clear hn
    subst el
    go_enter Try.func22, Try.ntmps22
    go_wp2_with fail
    go_loopw [13] (fun i wr => ∃ k : Nat, k ≤ l.length ∧ i = .int .i64 k ∧ Below w.heap.size w wr ∧ ∀ j, j < k → l[j]? = l'[j]?) (fun i _ => l.length - (intOf i).toNat)
    case atStart => exact ⟨0, Nat.zero_le _, rfl, Below.refl _ _, fun j hj => absurd hj (Nat.not_lt_zero _)⟩
    case round =>
      obtain ⟨k, hk, rfl, hbw, hall⟩ := hrel
      have HW : Hid (Below w.heap.size w wr) := hbw
      have AL : Hid _ := hall
      clear hall
      by_cases hlt : k < l.length
      · obtain ⟨a, rfl⟩ := HA.out.some (by omega)
        obtain ⟨b, rfl⟩ := HB.out.some (by have := HN.out; omega)
        obtain ⟨s, sv, se, _, rfl, sc⟩ := (HA.out.fr (fun q hq => hbw.cell (HS.out _ hq))).el k hlt
        have e0 := sc.c0
        have e1 := sc.cp 0 _ rfl
        have e2 := sc.cp 1 _ rfl
        have e3 := sc.cp 2 _ rfl
        obtain ⟨t, tv, te, _, rfl, tc⟩ := (HB.out.fr (fun q hq => hbw.cell (HS.out _ hq))).el k (by have := HN.out; omega)
        have d0 := tc.c0
        have d1 := tc.cp 0 _ rfl
        have d2 := tc.cp 1 _ rfl
        have d3 := tc.cp 2 _ rfl
        have ES : Hid (l[k]? = some s) := se
        have ET : Hid (l'[k]? = some t) := te
        have LT : Hid _ := hlt
        have kl : (k : Int) < l.length := by omega
        clear hbw se te hlt sc tc
        have za := block_lt_of_cell e0
        have zb := block_lt_of_cell d0
        by_cases q : s = t
        · subst q
          have f1 := neI_t s
          go_wp2_with fail
          have ca0 : ∀ x : Sub wr, x.w.cell? (a.add (k * 4)) = some (.int .i64 s.pl) := fun x => (x.h.cell za).trans e0
          have ca1 : ∀ x : Sub wr, x.w.cell? ⟨(a.add (k * 4)).block, (a.add (k * 4)).off + 1, none⟩ = some (.string s.ql) := fun x => (x.h.cell (p := ⟨(a.add (k * 4)).block, (a.add (k * 4)).off + 1, none⟩) za).trans e1
          have ca2 : ∀ x : Sub wr, x.w.cell? ⟨(a.add (k * 4)).block, (a.add (k * 4)).off + 2, none⟩ = some (.int .i64 s.tm) := fun x => (x.h.cell (p := ⟨(a.add (k * 4)).block, (a.add (k * 4)).off + 2, none⟩) za).trans e2
          have ca3 : ∀ x : Sub wr, x.w.cell? ⟨(a.add (k * 4)).block, (a.add (k * 4)).off + 3, none⟩ = some (.string s.nm) := fun x => (x.h.cell (p := ⟨(a.add (k * 4)).block, (a.add (k * 4)).off + 3, none⟩) za).trans e3
          have cb0 : ∀ x : Sub wr, x.w.cell? (b.add (k * 4)) = some (.int .i64 s.pl) := fun x => (x.h.cell zb).trans d0
          have cb1 : ∀ x : Sub wr, x.w.cell? ⟨(b.add (k * 4)).block, (b.add (k * 4)).off + 1, none⟩ = some (.string s.ql) := fun x => (x.h.cell (p := ⟨(b.add (k * 4)).block, (b.add (k * 4)).off + 1, none⟩) zb).trans d1
          have cb2 : ∀ x : Sub wr, x.w.cell? ⟨(b.add (k * 4)).block, (b.add (k * 4)).off + 2, none⟩ = some (.int .i64 s.tm) := fun x => (x.h.cell (p := ⟨(b.add (k * 4)).block, (b.add (k * 4)).off + 2, none⟩) zb).trans d2
          have cb3 : ∀ x : Sub wr, x.w.cell? ⟨(b.add (k * 4)).block, (b.add (k * 4)).off + 3, none⟩ = some (.string s.nm) := fun x => (x.h.cell (p := ⟨(b.add (k * 4)).block, (b.add (k * 4)).off + 3, none⟩) zb).trans d3
          refine wp_region_sub2 (by kernel_rfl) (by kernel_rfl) ?_
          intro cx
          repeat (first | go_big_quiet_skip | (go_big_quiet_want; go_big_quiet_op; first | go_big_quiet_on | (refine ⟨_, fun _ => rfl, ?_⟩; go_big_quiet_on)))
          refine wpQuiet_nil ?_
          rintro _ ⟨y, rfl⟩
          have Y : Hid (Below wr.heap.size wr y.w) := y.h
          clear cx ca0 cb0 ca1 cb1 ca2 cb2 ca3 cb3
          have ew : wrap64 ((k : Int) + 1) = (k : Int) + 1 := by have := HA.out.1; have := LT.out; unfold wrap64; omega
          go_wp2
          rw [ew]
          exact ⟨⟨k + 1, Nat.succ_le_of_lt LT.out, rfl, HW.out.trans (Y.out.mono HW.out.size), fun j hj => by rcases Nat.lt_succ_iff_lt_or_eq.1 hj with h | rfl; exact AL.out j h; exact ES.out.trans ET.out.symm⟩, msr LT.out⟩
        · have f2 := neI_f s t q
          have Q : Hid _ := q
          clear q
          go_wp2_with fail
          have ca0 : ∀ x : Sub wr, x.w.cell? (a.add (k * 4)) = some (.int .i64 s.pl) := fun x => (x.h.cell za).trans e0
          have ca1 : ∀ x : Sub wr, x.w.cell? ⟨(a.add (k * 4)).block, (a.add (k * 4)).off + 1, none⟩ = some (.string s.ql) := fun x => (x.h.cell (p := ⟨(a.add (k * 4)).block, (a.add (k * 4)).off + 1, none⟩) za).trans e1
          have ca2 : ∀ x : Sub wr, x.w.cell? ⟨(a.add (k * 4)).block, (a.add (k * 4)).off + 2, none⟩ = some (.int .i64 s.tm) := fun x => (x.h.cell (p := ⟨(a.add (k * 4)).block, (a.add (k * 4)).off + 2, none⟩) za).trans e2
          have ca3 : ∀ x : Sub wr, x.w.cell? ⟨(a.add (k * 4)).block, (a.add (k * 4)).off + 3, none⟩ = some (.string s.nm) := fun x => (x.h.cell (p := ⟨(a.add (k * 4)).block, (a.add (k * 4)).off + 3, none⟩) za).trans e3
          have cb0 : ∀ x : Sub wr, x.w.cell? (b.add (k * 4)) = some (.int .i64 t.pl) := fun x => (x.h.cell zb).trans d0
          have cb1 : ∀ x : Sub wr, x.w.cell? ⟨(b.add (k * 4)).block, (b.add (k * 4)).off + 1, none⟩ = some (.string t.ql) := fun x => (x.h.cell (p := ⟨(b.add (k * 4)).block, (b.add (k * 4)).off + 1, none⟩) zb).trans d1
          have cb2 : ∀ x : Sub wr, x.w.cell? ⟨(b.add (k * 4)).block, (b.add (k * 4)).off + 2, none⟩ = some (.int .i64 t.tm) := fun x => (x.h.cell (p := ⟨(b.add (k * 4)).block, (b.add (k * 4)).off + 2, none⟩) zb).trans d2
          have cb3 : ∀ x : Sub wr, x.w.cell? ⟨(b.add (k * 4)).block, (b.add (k * 4)).off + 3, none⟩ = some (.string t.nm) := fun x => (x.h.cell (p := ⟨(b.add (k * 4)).block, (b.add (k * 4)).off + 3, none⟩) zb).trans d3
          refine wp_region_sub2 (by kernel_rfl) (by kernel_rfl) ?_
          intro cx
          repeat (first | go_big_quiet_skip | (go_big_quiet_want; go_big_quiet_op; first | go_big_quiet_on | (refine ⟨_, fun _ => rfl, ?_⟩; go_big_quiet_on)))
          refine wpQuiet_nil ?_
          rintro _ ⟨y, rfl⟩
          have Y : Hid (Below w.heap.size w y.w) := HW.out.trans (y.h.mono HW.out.size)
          clear cx ca0 cb0 ca1 cb1 ca2 cb2 ca3 cb3
          have ed : decide (l = l') = false := decide_eq_false fun e => Q.out (by have a := ES.out; rw [e, ET.out] at a; exact (Option.some.inj a).symm)
          go_wp2
          go_ret
          exact ⟨by first | rfl | (rw [ed]; rfl) | rw [ed], Y.out⟩
      · have kl : ¬ (k : Int) < l.length := by omega
        have ed : decide (l = l') = true := decide_eq_true (List.ext_getElem? fun j => by
          by_cases hj : j < k
          · exact AL.out j hj
          · have := HN.out
            rw [List.getElem?_eq_none (by omega), List.getElem?_eq_none (by omega)])
        clear hbw hlt
        go_wp2
        go_ret
        exact ⟨by first | rfl | (rw [ed]; rfl) | rw [ed], HW.out⟩
  · have el' : ((l.length : Int) == (l'.length : Int)) = false := by rw [beq_eq_false_iff_ne]; omega
    have el2 : ((l.length : Int) != (l'.length : Int)) = true := by simp [bne, el']
    have ed : decide (l = l') = false := decide_eq_false fun e => el (by rw [e])
    clear el
    go_enter Try.func22, Try.ntmps22
    go_wp2
    go_ret
    exact ⟨by first | rfl | (rw [ed]; rfl) | rw [ed], Below.refl _ _⟩
end Go.Proofs.Ytcoeinfopfcekaa
