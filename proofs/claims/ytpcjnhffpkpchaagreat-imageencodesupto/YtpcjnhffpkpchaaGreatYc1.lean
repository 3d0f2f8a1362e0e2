/- Two codes and two tasks compared; no statement of the seat is proved here. -/
import Derived.Test.YtpcjnhffpkpchaaGreatYa1
namespace Go.Proofs.YtpcjnhffpkpchaaGreat
set_option linter.unusedVariables false
open Go.RowKit
noncomputable instance : DecidableEq CeR := fun _ _ => Classical.propDecidable _
noncomputable instance : DecidableEq OpR := fun _ _ => Classical.propDecidable _
noncomputable instance : DecidableEq LpR := fun _ _ => Classical.propDecidable _
noncomputable instance : DecidableEq FlR := fun _ _ => Classical.propDecidable _
noncomputable instance : DecidableEq JbR := fun _ _ => Classical.propDecidable _
noncomputable instance : DecidableEq ImR := fun _ _ => Classical.propDecidable _
theorem neC_t (s : CeR) (w : World) : (binOp .neq 42 (.agg #[.int .u8 s.kd, .bool s.sb, .int .i64 s.lo, .int .i64 s.hi, .int .i64 s.mx, .int .u8 s.ik, .int .u64 s.ib, .string s.is, .bool s.kp, .int .i64 s.dr, .string s.ad]) (.agg #[.int .u8 s.kd, .bool s.sb, .int .i64 s.lo, .int .i64 s.hi, .int .i64 s.mx, .int .u8 s.ik, .int .u64 s.ib, .string s.is, .bool s.kp, .int .i64 s.dr, .string s.ad])).run Tryz.prog w = .ok (.bool false) w := by simp [go_sem]
theorem neC_f (s t : CeR) (h : ¬ s = t) (w : World) : (binOp .neq 42 (.agg #[.int .u8 s.kd, .bool s.sb, .int .i64 s.lo, .int .i64 s.hi, .int .i64 s.mx, .int .u8 s.ik, .int .u64 s.ib, .string s.is, .bool s.kp, .int .i64 s.dr, .string s.ad]) (.agg #[.int .u8 t.kd, .bool t.sb, .int .i64 t.lo, .int .i64 t.hi, .int .i64 t.mx, .int .u8 t.ik, .int .u64 t.ib, .string t.is, .bool t.kp, .int .i64 t.dr, .string t.ad])).run Tryz.prog w = .ok (.bool true) w := by
  cases s with | mk s0 s1 s2 s3 s4 s5 s6 s7 s8 s9 s10 =>
  cases t with | mk t0 t1 t2 t3 t4 t5 t6 t7 t8 t9 t10 =>
  by_cases e0 : s0 = t0
  case neg => simp [go_sem, e0]
  subst e0
  by_cases e1 : s1 = t1
  case neg => simp [go_sem, e1]
  subst e1
  by_cases e2 : s2 = t2
  case neg => simp [go_sem, e2]
  subst e2
  by_cases e3 : s3 = t3
  case neg => simp [go_sem, e3]
  subst e3
  by_cases e4 : s4 = t4
  case neg => simp [go_sem, e4]
  subst e4
  by_cases e5 : s5 = t5
  case neg => simp [go_sem, e5]
  subst e5
  by_cases e6 : s6 = t6
  case neg => simp [go_sem, e6]
  subst e6
  by_cases e7 : s7.toList = t7.toList
  case neg => simp [go_sem, e7]
  obtain rfl := ba_ext e7
  by_cases e8 : s8 = t8
  case neg => simp [go_sem, e8]
  subst e8
  by_cases e9 : s9 = t9
  case neg => simp [go_sem, e9]
  subst e9
  by_cases e10 : s10.toList = t10.toList
  case neg => simp [go_sem, e10]
  obtain rfl := ba_ext e10
  exact absurd rfl h
set_option maxHeartbeats 4000000 in
theorem EqualC (x y : Option Addr) (l l' : List CeR) (c d : Nat) (w : World) {S : Nat → Prop} (hS : ∀ b, S b → b < w.heap.size) (ha : RwF 11 (Is ceC) S w x l) (hb : RwF 11 (Is ceC) S w y l') :
    Calls Tryz.prog 19 #[.slice x l.length c, .slice y l'.length d] w fun e w' => e = .returned (.bool (decide (l = l'))) ∧ Below w.heap.size w w' := by
  have HA : Hid (RwF 11 (Is ceC) S w x l) := ha
  have HB : Hid (RwF 11 (Is ceC) S w y l') := hb
  have HS : Hid _ := hS
  clear ha hb hS
  by_cases el : l.length = l'.length
  · generalize hn : l'.length = n at *
    have HN : Hid _ := hn
    clear hn
    subst el
    go_enter Tryz.func19, Tryz.ntmps19
    go_wp2_with fail
    go_loopw [13] (fun i wr => ∃ k : Nat, k ≤ l.length ∧ i = .int .i64 k ∧ Below w.heap.size w wr ∧ ∀ j, j < k → l[j]? = l'[j]?) (fun i _ => l.length - (intOf i).toNat)
    case atStart => exact ⟨0, Nat.zero_le _, rfl, Below.refl _ _, fun j hj => absurd hj (Nat.not_lt_zero _)⟩
    case round =>
      obtain ⟨k, hk, rfl, hbw, hall⟩ := hrel
      have HW : Hid (Below w.heap.size w wr) := hbw
      have AL : Hid _ := hall
      clear hall
      by_cases hlt : k < l.length
      · obtain ⟨a, rfl⟩ := HA.out.some (by omega)
        obtain ⟨b, rfl⟩ := HB.out.some (by have := HN.out; omega)
        obtain ⟨s, sv, se, _, rfl, sc⟩ := (HA.out.fr (fun q hq => hbw.cell (HS.out _ hq))).el k hlt
        have e0 := sc.c0
        have e1 := sc.cp 0 _ rfl
        have e2 := sc.cp 1 _ rfl
        have e3 := sc.cp 2 _ rfl
        have e4 := sc.cp 3 _ rfl
        have e5 := sc.cp 4 _ rfl
        have e6 := sc.cp 5 _ rfl
        have e7 := sc.cp 6 _ rfl
        have e8 := sc.cp 7 _ rfl
        have e9 := sc.cp 8 _ rfl
        have e10 := sc.cp 9 _ rfl
        obtain ⟨t, tv, te, _, rfl, tc⟩ := (HB.out.fr (fun q hq => hbw.cell (HS.out _ hq))).el k (by have := HN.out; omega)
        have d0 := tc.c0
        have d1 := tc.cp 0 _ rfl
        have d2 := tc.cp 1 _ rfl
        have d3 := tc.cp 2 _ rfl
        have d4 := tc.cp 3 _ rfl
        have d5 := tc.cp 4 _ rfl
        have d6 := tc.cp 5 _ rfl
        have d7 := tc.cp 6 _ rfl
        have d8 := tc.cp 7 _ rfl
        have d9 := tc.cp 8 _ rfl
        have d10 := tc.cp 9 _ rfl
        have ES : Hid (l[k]? = some s) := se
        have ET : Hid (l'[k]? = some t) := te
        have LT : Hid _ := hlt
        have kl : (k : Int) < l.length := by omega
        clear hbw se te hlt sc tc
        have za := block_lt_of_cell e0
        have zb := block_lt_of_cell d0
        by_cases q : s = t
        · subst q
          have f1 := neC_t s
          go_wp2_with fail
          have ca0 : ∀ x : Sub wr, x.w.cell? (a.add (k * 11)) = some (.int .u8 s.kd) := fun x => (x.h.cell za).trans e0
          have ca1 : ∀ x : Sub wr, x.w.cell? ⟨(a.add (k * 11)).block, (a.add (k * 11)).off + 1, none⟩ = some (.bool s.sb) := fun x => (x.h.cell (p := ⟨(a.add (k * 11)).block, (a.add (k * 11)).off + 1, none⟩) za).trans e1
          have ca2 : ∀ x : Sub wr, x.w.cell? ⟨(a.add (k * 11)).block, (a.add (k * 11)).off + 2, none⟩ = some (.int .i64 s.lo) := fun x => (x.h.cell (p := ⟨(a.add (k * 11)).block, (a.add (k * 11)).off + 2, none⟩) za).trans e2
          have ca3 : ∀ x : Sub wr, x.w.cell? ⟨(a.add (k * 11)).block, (a.add (k * 11)).off + 3, none⟩ = some (.int .i64 s.hi) := fun x => (x.h.cell (p := ⟨(a.add (k * 11)).block, (a.add (k * 11)).off + 3, none⟩) za).trans e3
          have ca4 : ∀ x : Sub wr, x.w.cell? ⟨(a.add (k * 11)).block, (a.add (k * 11)).off + 4, none⟩ = some (.int .i64 s.mx) := fun x => (x.h.cell (p := ⟨(a.add (k * 11)).block, (a.add (k * 11)).off + 4, none⟩) za).trans e4
          have ca5 : ∀ x : Sub wr, x.w.cell? ⟨(a.add (k * 11)).block, (a.add (k * 11)).off + 5, none⟩ = some (.int .u8 s.ik) := fun x => (x.h.cell (p := ⟨(a.add (k * 11)).block, (a.add (k * 11)).off + 5, none⟩) za).trans e5
          have ca6 : ∀ x : Sub wr, x.w.cell? ⟨(a.add (k * 11)).block, (a.add (k * 11)).off + 6, none⟩ = some (.int .u64 s.ib) := fun x => (x.h.cell (p := ⟨(a.add (k * 11)).block, (a.add (k * 11)).off + 6, none⟩) za).trans e6
          have ca7 : ∀ x : Sub wr, x.w.cell? ⟨(a.add (k * 11)).block, (a.add (k * 11)).off + 7, none⟩ = some (.string s.is) := fun x => (x.h.cell (p := ⟨(a.add (k * 11)).block, (a.add (k * 11)).off + 7, none⟩) za).trans e7
          have ca8 : ∀ x : Sub wr, x.w.cell? ⟨(a.add (k * 11)).block, (a.add (k * 11)).off + 8, none⟩ = some (.bool s.kp) := fun x => (x.h.cell (p := ⟨(a.add (k * 11)).block, (a.add (k * 11)).off + 8, none⟩) za).trans e8
          have ca9 : ∀ x : Sub wr, x.w.cell? ⟨(a.add (k * 11)).block, (a.add (k * 11)).off + 9, none⟩ = some (.int .i64 s.dr) := fun x => (x.h.cell (p := ⟨(a.add (k * 11)).block, (a.add (k * 11)).off + 9, none⟩) za).trans e9
          have ca10 : ∀ x : Sub wr, x.w.cell? ⟨(a.add (k * 11)).block, (a.add (k * 11)).off + 10, none⟩ = some (.string s.ad) := fun x => (x.h.cell (p := ⟨(a.add (k * 11)).block, (a.add (k * 11)).off + 10, none⟩) za).trans e10
          have cb0 : ∀ x : Sub wr, x.w.cell? (b.add (k * 11)) = some (.int .u8 s.kd) := fun x => (x.h.cell zb).trans d0
          have cb1 : ∀ x : Sub wr, x.w.cell? ⟨(b.add (k * 11)).block, (b.add (k * 11)).off + 1, none⟩ = some (.bool s.sb) := fun x => (x.h.cell (p := ⟨(b.add (k * 11)).block, (b.add (k * 11)).off + 1, none⟩) zb).trans d1
          have cb2 : ∀ x : Sub wr, x.w.cell? ⟨(b.add (k * 11)).block, (b.add (k * 11)).off + 2, none⟩ = some (.int .i64 s.lo) := fun x => (x.h.cell (p := ⟨(b.add (k * 11)).block, (b.add (k * 11)).off + 2, none⟩) zb).trans d2
          have cb3 : ∀ x : Sub wr, x.w.cell? ⟨(b.add (k * 11)).block, (b.add (k * 11)).off + 3, none⟩ = some (.int .i64 s.hi) := fun x => (x.h.cell (p := ⟨(b.add (k * 11)).block, (b.add (k * 11)).off + 3, none⟩) zb).trans d3
          have cb4 : ∀ x : Sub wr, x.w.cell? ⟨(b.add (k * 11)).block, (b.add (k * 11)).off + 4, none⟩ = some (.int .i64 s.mx) := fun x => (x.h.cell (p := ⟨(b.add (k * 11)).block, (b.add (k * 11)).off + 4, none⟩) zb).trans d4
          have cb5 : ∀ x : Sub wr, x.w.cell? ⟨(b.add (k * 11)).block, (b.add (k * 11)).off + 5, none⟩ = some (.int .u8 s.ik) := fun x => (x.h.cell (p := ⟨(b.add (k * 11)).block, (b.add (k * 11)).off + 5, none⟩) zb).trans d5
          have cb6 : ∀ x : Sub wr, x.w.cell? ⟨(b.add (k * 11)).block, (b.add (k * 11)).off + 6, none⟩ = some (.int .u64 s.ib) := fun x => (x.h.cell (p := ⟨(b.add (k * 11)).block, (b.add (k * 11)).off + 6, none⟩) zb).trans d6
          have cb7 : ∀ x : Sub wr, x.w.cell? ⟨(b.add (k * 11)).block, (b.add (k * 11)).off + 7, none⟩ = some (.string s.is) := fun x => (x.h.cell (p := ⟨(b.add (k * 11)).block, (b.add (k * 11)).off + 7, none⟩) zb).trans d7
          have cb8 : ∀ x : Sub wr, x.w.cell? ⟨(b.add (k * 11)).block, (b.add (k * 11)).off + 8, none⟩ = some (.bool s.kp) := fun x => (x.h.cell (p := ⟨(b.add (k * 11)).block, (b.add (k * 11)).off + 8, none⟩) zb).trans d8
          have cb9 : ∀ x : Sub wr, x.w.cell? ⟨(b.add (k * 11)).block, (b.add (k * 11)).off + 9, none⟩ = some (.int .i64 s.dr) := fun x => (x.h.cell (p := ⟨(b.add (k * 11)).block, (b.add (k * 11)).off + 9, none⟩) zb).trans d9
          have cb10 : ∀ x : Sub wr, x.w.cell? ⟨(b.add (k * 11)).block, (b.add (k * 11)).off + 10, none⟩ = some (.string s.ad) := fun x => (x.h.cell (p := ⟨(b.add (k * 11)).block, (b.add (k * 11)).off + 10, none⟩) zb).trans d10
          refine wp_region_sub2 (by kernel_rfl) (by kernel_rfl) ?_
          intro cx
          repeat (first | go_big_quiet_skip | (go_big_quiet_want; go_big_quiet_op; first | go_big_quiet_on | (refine ⟨_, fun _ => rfl, ?_⟩; go_big_quiet_on)))
          refine wpQuiet_nil ?_
          rintro _ ⟨y, rfl⟩
          have Y : Hid (Below wr.heap.size wr y.w) := y.h
          clear cx ca0 cb0 ca1 cb1 ca2 cb2 ca3 cb3 ca4 cb4 ca5 cb5 ca6 cb6 ca7 cb7 ca8 cb8 ca9 cb9 ca10 cb10
          have ew : wrap64 ((k : Int) + 1) = (k : Int) + 1 := by have := HA.out.1; have := LT.out; unfold wrap64; omega
          go_wp2
          rw [ew]
          exact ⟨⟨k + 1, Nat.succ_le_of_lt LT.out, rfl, HW.out.trans (Y.out.mono HW.out.size), fun j hj => by rcases Nat.lt_succ_iff_lt_or_eq.1 hj with h | rfl; exact AL.out j h; exact ES.out.trans ET.out.symm⟩, msr LT.out⟩
        · have f2 := neC_f s t q
          have Q : Hid _ := q
          clear q
          go_wp2_with fail
          have ca0 : ∀ x : Sub wr, x.w.cell? (a.add (k * 11)) = some (.int .u8 s.kd) := fun x => (x.h.cell za).trans e0
          have ca1 : ∀ x : Sub wr, x.w.cell? ⟨(a.add (k * 11)).block, (a.add (k * 11)).off + 1, none⟩ = some (.bool s.sb) := fun x => (x.h.cell (p := ⟨(a.add (k * 11)).block, (a.add (k * 11)).off + 1, none⟩) za).trans e1
          have ca2 : ∀ x : Sub wr, x.w.cell? ⟨(a.add (k * 11)).block, (a.add (k * 11)).off + 2, none⟩ = some (.int .i64 s.lo) := fun x => (x.h.cell (p := ⟨(a.add (k * 11)).block, (a.add (k * 11)).off + 2, none⟩) za).trans e2
          have ca3 : ∀ x : Sub wr, x.w.cell? ⟨(a.add (k * 11)).block, (a.add (k * 11)).off + 3, none⟩ = some (.int .i64 s.hi) := fun x => (x.h.cell (p := ⟨(a.add (k * 11)).block, (a.add (k * 11)).off + 3, none⟩) za).trans e3
          have ca4 : ∀ x : Sub wr, x.w.cell? ⟨(a.add (k * 11)).block, (a.add (k * 11)).off + 4, none⟩ = some (.int .i64 s.mx) := fun x => (x.h.cell (p := ⟨(a.add (k * 11)).block, (a.add (k * 11)).off + 4, none⟩) za).trans e4
          have ca5 : ∀ x : Sub wr, x.w.cell? ⟨(a.add (k * 11)).block, (a.add (k * 11)).off + 5, none⟩ = some (.int .u8 s.ik) := fun x => (x.h.cell (p := ⟨(a.add (k * 11)).block, (a.add (k * 11)).off + 5, none⟩) za).trans e5
          have ca6 : ∀ x : Sub wr, x.w.cell? ⟨(a.add (k * 11)).block, (a.add (k * 11)).off + 6, none⟩ = some (.int .u64 s.ib) := fun x => (x.h.cell (p := ⟨(a.add (k * 11)).block, (a.add (k * 11)).off + 6, none⟩) za).trans e6
          have ca7 : ∀ x : Sub wr, x.w.cell? ⟨(a.add (k * 11)).block, (a.add (k * 11)).off + 7, none⟩ = some (.string s.is) := fun x => (x.h.cell (p := ⟨(a.add (k * 11)).block, (a.add (k * 11)).off + 7, none⟩) za).trans e7
          have ca8 : ∀ x : Sub wr, x.w.cell? ⟨(a.add (k * 11)).block, (a.add (k * 11)).off + 8, none⟩ = some (.bool s.kp) := fun x => (x.h.cell (p := ⟨(a.add (k * 11)).block, (a.add (k * 11)).off + 8, none⟩) za).trans e8
          have ca9 : ∀ x : Sub wr, x.w.cell? ⟨(a.add (k * 11)).block, (a.add (k * 11)).off + 9, none⟩ = some (.int .i64 s.dr) := fun x => (x.h.cell (p := ⟨(a.add (k * 11)).block, (a.add (k * 11)).off + 9, none⟩) za).trans e9
          have ca10 : ∀ x : Sub wr, x.w.cell? ⟨(a.add (k * 11)).block, (a.add (k * 11)).off + 10, none⟩ = some (.string s.ad) := fun x => (x.h.cell (p := ⟨(a.add (k * 11)).block, (a.add (k * 11)).off + 10, none⟩) za).trans e10
          have cb0 : ∀ x : Sub wr, x.w.cell? (b.add (k * 11)) = some (.int .u8 t.kd) := fun x => (x.h.cell zb).trans d0
          have cb1 : ∀ x : Sub wr, x.w.cell? ⟨(b.add (k * 11)).block, (b.add (k * 11)).off + 1, none⟩ = some (.bool t.sb) := fun x => (x.h.cell (p := ⟨(b.add (k * 11)).block, (b.add (k * 11)).off + 1, none⟩) zb).trans d1
          have cb2 : ∀ x : Sub wr, x.w.cell? ⟨(b.add (k * 11)).block, (b.add (k * 11)).off + 2, none⟩ = some (.int .i64 t.lo) := fun x => (x.h.cell (p := ⟨(b.add (k * 11)).block, (b.add (k * 11)).off + 2, none⟩) zb).trans d2
          have cb3 : ∀ x : Sub wr, x.w.cell? ⟨(b.add (k * 11)).block, (b.add (k * 11)).off + 3, none⟩ = some (.int .i64 t.hi) := fun x => (x.h.cell (p := ⟨(b.add (k * 11)).block, (b.add (k * 11)).off + 3, none⟩) zb).trans d3
          have cb4 : ∀ x : Sub wr, x.w.cell? ⟨(b.add (k * 11)).block, (b.add (k * 11)).off + 4, none⟩ = some (.int .i64 t.mx) := fun x => (x.h.cell (p := ⟨(b.add (k * 11)).block, (b.add (k * 11)).off + 4, none⟩) zb).trans d4
          have cb5 : ∀ x : Sub wr, x.w.cell? ⟨(b.add (k * 11)).block, (b.add (k * 11)).off + 5, none⟩ = some (.int .u8 t.ik) := fun x => (x.h.cell (p := ⟨(b.add (k * 11)).block, (b.add (k * 11)).off + 5, none⟩) zb).trans d5
          have cb6 : ∀ x : Sub wr, x.w.cell? ⟨(b.add (k * 11)).block, (b.add (k * 11)).off + 6, none⟩ = some (.int .u64 t.ib) := fun x => (x.h.cell (p := ⟨(b.add (k * 11)).block, (b.add (k * 11)).off + 6, none⟩) zb).trans d6
          have cb7 : ∀ x : Sub wr, x.w.cell? ⟨(b.add (k * 11)).block, (b.add (k * 11)).off + 7, none⟩ = some (.string t.is) := fun x => (x.h.cell (p := ⟨(b.add (k * 11)).block, (b.add (k * 11)).off + 7, none⟩) zb).trans d7
          have cb8 : ∀ x : Sub wr, x.w.cell? ⟨(b.add (k * 11)).block, (b.add (k * 11)).off + 8, none⟩ = some (.bool t.kp) := fun x => (x.h.cell (p := ⟨(b.add (k * 11)).block, (b.add (k * 11)).off + 8, none⟩) zb).trans d8
          have cb9 : ∀ x : Sub wr, x.w.cell? ⟨(b.add (k * 11)).block, (b.add (k * 11)).off + 9, none⟩ = some (.int .i64 t.dr) := fun x => (x.h.cell (p := ⟨(b.add (k * 11)).block, (b.add (k * 11)).off + 9, none⟩) zb).trans d9
          have cb10 : ∀ x : Sub wr, x.w.cell? ⟨(b.add (k * 11)).block, (b.add (k * 11)).off + 10, none⟩ = some (.string t.ad) := fun x => (x.h.cell (p := ⟨(b.add (k * 11)).block, (b.add (k * 11)).off + 10, none⟩) zb).trans d10
          refine wp_region_sub2 (by kernel_rfl) (by kernel_rfl) ?_
          intro cx
          repeat (first | go_big_quiet_skip | (go_big_quiet_want; go_big_quiet_op; first | go_big_quiet_on | (refine ⟨_, fun _ => rfl, ?_⟩; go_big_quiet_on)))
          refine wpQuiet_nil ?_
          rintro _ ⟨y, rfl⟩
          have Y : Hid (Below w.heap.size w y.w) := HW.out.trans (y.h.mono HW.out.size)
          clear cx ca0 cb0 ca1 cb1 ca2 cb2 ca3 cb3 ca4 cb4 ca5 cb5 ca6 cb6 ca7 cb7 ca8 cb8 ca9 cb9 ca10 cb10
          have ed : decide (l = l') = false := decide_eq_false fun e => Q.out (by have a := ES.out; rw [e, ET.out] at a; exact (Option.some.inj a).symm)
          go_wp2
          go_ret
          exact ⟨by first | rfl | (rw [ed]; rfl) | rw [ed], Y.out⟩
      · have kl : ¬ (k : Int) < l.length := by omega
        have ed : decide (l = l') = true := decide_eq_true (List.ext_getElem? fun j => by
          by_cases hj : j < k
          · exact AL.out j hj
          · have := HN.out
            rw [List.getElem?_eq_none (by omega), List.getElem?_eq_none (by omega)])
        clear hbw hlt
        go_wp2
        go_ret
        exact ⟨by first | rfl | (rw [ed]; rfl) | rw [ed], HW.out⟩
  · have el' : ((l.length : Int) == (l'.length : Int)) = false := by rw [beq_eq_false_iff_ne]; omega
    have el2 : ((l.length : Int) != (l'.length : Int)) = true := by simp [bne, el']
    have ed : decide (l = l') = false := decide_eq_false fun e => el (by rw [e])
    clear el
    go_enter Tryz.func19, Tryz.ntmps19
    go_wp2
    go_ret
    exact ⟨by first | rfl | (rw [ed]; rfl) | rw [ed], Below.refl _ _⟩
theorem neO_t (s : OpR) (w : World) : (binOp .neq 86 (.agg #[.int .i64 s.cd, .int .i64 s.a, .int .i64 s.b, .int .i64 s.c, .int .i64 s.d, .int .i64 s.lo, .int .i64 s.hi, .int .u8 s.vk, .int .u64 s.vb, .string s.vs]) (.agg #[.int .i64 s.cd, .int .i64 s.a, .int .i64 s.b, .int .i64 s.c, .int .i64 s.d, .int .i64 s.lo, .int .i64 s.hi, .int .u8 s.vk, .int .u64 s.vb, .string s.vs])).run Tryz.prog w = .ok (.bool false) w := by simp [go_sem]
theorem neO_f (s t : OpR) (h : ¬ s = t) (w : World) : (binOp .neq 86 (.agg #[.int .i64 s.cd, .int .i64 s.a, .int .i64 s.b, .int .i64 s.c, .int .i64 s.d, .int .i64 s.lo, .int .i64 s.hi, .int .u8 s.vk, .int .u64 s.vb, .string s.vs]) (.agg #[.int .i64 t.cd, .int .i64 t.a, .int .i64 t.b, .int .i64 t.c, .int .i64 t.d, .int .i64 t.lo, .int .i64 t.hi, .int .u8 t.vk, .int .u64 t.vb, .string t.vs])).run Tryz.prog w = .ok (.bool true) w := by
  cases s with | mk s0 s1 s2 s3 s4 s5 s6 s7 s8 s9 =>
  cases t with | mk t0 t1 t2 t3 t4 t5 t6 t7 t8 t9 =>
  by_cases e0 : s0 = t0
  case neg => simp [go_sem, e0]
  subst e0
  by_cases e1 : s1 = t1
  case neg => simp [go_sem, e1]
  subst e1
  by_cases e2 : s2 = t2
  case neg => simp [go_sem, e2]
  subst e2
  by_cases e3 : s3 = t3
  case neg => simp [go_sem, e3]
  subst e3
  by_cases e4 : s4 = t4
  case neg => simp [go_sem, e4]
  subst e4
  by_cases e5 : s5 = t5
  case neg => simp [go_sem, e5]
  subst e5
  by_cases e6 : s6 = t6
  case neg => simp [go_sem, e6]
  subst e6
  by_cases e7 : s7 = t7
  case neg => simp [go_sem, e7]
  subst e7
  by_cases e8 : s8 = t8
  case neg => simp [go_sem, e8]
  subst e8
  by_cases e9 : s9.toList = t9.toList
  case neg => simp [go_sem, e9]
  obtain rfl := ba_ext e9
  exact absurd rfl h
set_option maxHeartbeats 4000000 in
theorem EqualO (x y : Option Addr) (l l' : List OpR) (c d : Nat) (w : World) {S : Nat → Prop} (hS : ∀ b, S b → b < w.heap.size) (ha : RwF 10 (Is opC) S w x l) (hb : RwF 10 (Is opC) S w y l') :
    Calls Tryz.prog 79 #[.slice x l.length c, .slice y l'.length d] w fun e w' => e = .returned (.bool (decide (l = l'))) ∧ Below w.heap.size w w' := by
  have HA : Hid (RwF 10 (Is opC) S w x l) := ha
  have HB : Hid (RwF 10 (Is opC) S w y l') := hb
  have HS : Hid _ := hS
  clear ha hb hS
  by_cases el : l.length = l'.length
  · generalize hn : l'.length = n at *
    have HN : Hid _ := hn
    clear hn
    subst el
    go_enter Tryz.func79, Tryz.ntmps79
    go_wp2_with fail
    go_loopw [13] (fun i wr => ∃ k : Nat, k ≤ l.length ∧ i = .int .i64 k ∧ Below w.heap.size w wr ∧ ∀ j, j < k → l[j]? = l'[j]?) (fun i _ => l.length - (intOf i).toNat)
    case atStart => exact ⟨0, Nat.zero_le _, rfl, Below.refl _ _, fun j hj => absurd hj (Nat.not_lt_zero _)⟩
    case round =>
      obtain ⟨k, hk, rfl, hbw, hall⟩ := hrel
      have HW : Hid (Below w.heap.size w wr) := hbw
      have AL : Hid _ := hall
      clear hall
      by_cases hlt : k < l.length
      · obtain ⟨a, rfl⟩ := HA.out.some (by omega)
        obtain ⟨b, rfl⟩ := HB.out.some (by have := HN.out; omega)
        obtain ⟨s, sv, se, _, rfl, sc⟩ := (HA.out.fr (fun q hq => hbw.cell (HS.out _ hq))).el k hlt
        have e0 := sc.c0
        have e1 := sc.cp 0 _ rfl
        have e2 := sc.cp 1 _ rfl
        have e3 := sc.cp 2 _ rfl
        have e4 := sc.cp 3 _ rfl
        have e5 := sc.cp 4 _ rfl
        have e6 := sc.cp 5 _ rfl
        have e7 := sc.cp 6 _ rfl
        have e8 := sc.cp 7 _ rfl
        have e9 := sc.cp 8 _ rfl
        obtain ⟨t, tv, te, _, rfl, tc⟩ := (HB.out.fr (fun q hq => hbw.cell (HS.out _ hq))).el k (by have := HN.out; omega)
        have d0 := tc.c0
        have d1 := tc.cp 0 _ rfl
        have d2 := tc.cp 1 _ rfl
        have d3 := tc.cp 2 _ rfl
        have d4 := tc.cp 3 _ rfl
        have d5 := tc.cp 4 _ rfl
        have d6 := tc.cp 5 _ rfl
        have d7 := tc.cp 6 _ rfl
        have d8 := tc.cp 7 _ rfl
        have d9 := tc.cp 8 _ rfl
        have ES : Hid (l[k]? = some s) := se
        have ET : Hid (l'[k]? = some t) := te
        have LT : Hid _ := hlt
        have kl : (k : Int) < l.length := by omega
        clear hbw se te hlt sc tc
        have za := block_lt_of_cell e0
        have zb := block_lt_of_cell d0
        by_cases q : s = t
        · subst q
          have f1 := neO_t s
          go_wp2_with fail
          have ca0 : ∀ x : Sub wr, x.w.cell? (a.add (k * 10)) = some (.int .i64 s.cd) := fun x => (x.h.cell za).trans e0
          have ca1 : ∀ x : Sub wr, x.w.cell? ⟨(a.add (k * 10)).block, (a.add (k * 10)).off + 1, none⟩ = some (.int .i64 s.a) := fun x => (x.h.cell (p := ⟨(a.add (k * 10)).block, (a.add (k * 10)).off + 1, none⟩) za).trans e1
          have ca2 : ∀ x : Sub wr, x.w.cell? ⟨(a.add (k * 10)).block, (a.add (k * 10)).off + 2, none⟩ = some (.int .i64 s.b) := fun x => (x.h.cell (p := ⟨(a.add (k * 10)).block, (a.add (k * 10)).off + 2, none⟩) za).trans e2
          have ca3 : ∀ x : Sub wr, x.w.cell? ⟨(a.add (k * 10)).block, (a.add (k * 10)).off + 3, none⟩ = some (.int .i64 s.c) := fun x => (x.h.cell (p := ⟨(a.add (k * 10)).block, (a.add (k * 10)).off + 3, none⟩) za).trans e3
          have ca4 : ∀ x : Sub wr, x.w.cell? ⟨(a.add (k * 10)).block, (a.add (k * 10)).off + 4, none⟩ = some (.int .i64 s.d) := fun x => (x.h.cell (p := ⟨(a.add (k * 10)).block, (a.add (k * 10)).off + 4, none⟩) za).trans e4
          have ca5 : ∀ x : Sub wr, x.w.cell? ⟨(a.add (k * 10)).block, (a.add (k * 10)).off + 5, none⟩ = some (.int .i64 s.lo) := fun x => (x.h.cell (p := ⟨(a.add (k * 10)).block, (a.add (k * 10)).off + 5, none⟩) za).trans e5
          have ca6 : ∀ x : Sub wr, x.w.cell? ⟨(a.add (k * 10)).block, (a.add (k * 10)).off + 6, none⟩ = some (.int .i64 s.hi) := fun x => (x.h.cell (p := ⟨(a.add (k * 10)).block, (a.add (k * 10)).off + 6, none⟩) za).trans e6
          have ca7 : ∀ x : Sub wr, x.w.cell? ⟨(a.add (k * 10)).block, (a.add (k * 10)).off + 7, none⟩ = some (.int .u8 s.vk) := fun x => (x.h.cell (p := ⟨(a.add (k * 10)).block, (a.add (k * 10)).off + 7, none⟩) za).trans e7
          have ca8 : ∀ x : Sub wr, x.w.cell? ⟨(a.add (k * 10)).block, (a.add (k * 10)).off + 8, none⟩ = some (.int .u64 s.vb) := fun x => (x.h.cell (p := ⟨(a.add (k * 10)).block, (a.add (k * 10)).off + 8, none⟩) za).trans e8
          have ca9 : ∀ x : Sub wr, x.w.cell? ⟨(a.add (k * 10)).block, (a.add (k * 10)).off + 9, none⟩ = some (.string s.vs) := fun x => (x.h.cell (p := ⟨(a.add (k * 10)).block, (a.add (k * 10)).off + 9, none⟩) za).trans e9
          have cb0 : ∀ x : Sub wr, x.w.cell? (b.add (k * 10)) = some (.int .i64 s.cd) := fun x => (x.h.cell zb).trans d0
          have cb1 : ∀ x : Sub wr, x.w.cell? ⟨(b.add (k * 10)).block, (b.add (k * 10)).off + 1, none⟩ = some (.int .i64 s.a) := fun x => (x.h.cell (p := ⟨(b.add (k * 10)).block, (b.add (k * 10)).off + 1, none⟩) zb).trans d1
          have cb2 : ∀ x : Sub wr, x.w.cell? ⟨(b.add (k * 10)).block, (b.add (k * 10)).off + 2, none⟩ = some (.int .i64 s.b) := fun x => (x.h.cell (p := ⟨(b.add (k * 10)).block, (b.add (k * 10)).off + 2, none⟩) zb).trans d2
          have cb3 : ∀ x : Sub wr, x.w.cell? ⟨(b.add (k * 10)).block, (b.add (k * 10)).off + 3, none⟩ = some (.int .i64 s.c) := fun x => (x.h.cell (p := ⟨(b.add (k * 10)).block, (b.add (k * 10)).off + 3, none⟩) zb).trans d3
          have cb4 : ∀ x : Sub wr, x.w.cell? ⟨(b.add (k * 10)).block, (b.add (k * 10)).off + 4, none⟩ = some (.int .i64 s.d) := fun x => (x.h.cell (p := ⟨(b.add (k * 10)).block, (b.add (k * 10)).off + 4, none⟩) zb).trans d4
          have cb5 : ∀ x : Sub wr, x.w.cell? ⟨(b.add (k * 10)).block, (b.add (k * 10)).off + 5, none⟩ = some (.int .i64 s.lo) := fun x => (x.h.cell (p := ⟨(b.add (k * 10)).block, (b.add (k * 10)).off + 5, none⟩) zb).trans d5
          have cb6 : ∀ x : Sub wr, x.w.cell? ⟨(b.add (k * 10)).block, (b.add (k * 10)).off + 6, none⟩ = some (.int .i64 s.hi) := fun x => (x.h.cell (p := ⟨(b.add (k * 10)).block, (b.add (k * 10)).off + 6, none⟩) zb).trans d6
          have cb7 : ∀ x : Sub wr, x.w.cell? ⟨(b.add (k * 10)).block, (b.add (k * 10)).off + 7, none⟩ = some (.int .u8 s.vk) := fun x => (x.h.cell (p := ⟨(b.add (k * 10)).block, (b.add (k * 10)).off + 7, none⟩) zb).trans d7
          have cb8 : ∀ x : Sub wr, x.w.cell? ⟨(b.add (k * 10)).block, (b.add (k * 10)).off + 8, none⟩ = some (.int .u64 s.vb) := fun x => (x.h.cell (p := ⟨(b.add (k * 10)).block, (b.add (k * 10)).off + 8, none⟩) zb).trans d8
          have cb9 : ∀ x : Sub wr, x.w.cell? ⟨(b.add (k * 10)).block, (b.add (k * 10)).off + 9, none⟩ = some (.string s.vs) := fun x => (x.h.cell (p := ⟨(b.add (k * 10)).block, (b.add (k * 10)).off + 9, none⟩) zb).trans d9
          refine wp_region_sub2 (by kernel_rfl) (by kernel_rfl) ?_
          intro cx
          repeat (first | go_big_quiet_skip | (go_big_quiet_want; go_big_quiet_op; first | go_big_quiet_on | (refine ⟨_, fun _ => rfl, ?_⟩; go_big_quiet_on)))
          refine wpQuiet_nil ?_
          rintro _ ⟨y, rfl⟩
          have Y : Hid (Below wr.heap.size wr y.w) := y.h
          clear cx ca0 cb0 ca1 cb1 ca2 cb2 ca3 cb3 ca4 cb4 ca5 cb5 ca6 cb6 ca7 cb7 ca8 cb8 ca9 cb9
          have ew : wrap64 ((k : Int) + 1) = (k : Int) + 1 := by have := HA.out.1; have := LT.out; unfold wrap64; omega
          go_wp2
          rw [ew]
          exact ⟨⟨k + 1, Nat.succ_le_of_lt LT.out, rfl, HW.out.trans (Y.out.mono HW.out.size), fun j hj => by rcases Nat.lt_succ_iff_lt_or_eq.1 hj with h | rfl; exact AL.out j h; exact ES.out.trans ET.out.symm⟩, msr LT.out⟩
        · have f2 := neO_f s t q
          have Q : Hid _ := q
          clear q
          go_wp2_with fail
          have ca0 : ∀ x : Sub wr, x.w.cell? (a.add (k * 10)) = some (.int .i64 s.cd) := fun x => (x.h.cell za).trans e0
          have ca1 : ∀ x : Sub wr, x.w.cell? ⟨(a.add (k * 10)).block, (a.add (k * 10)).off + 1, none⟩ = some (.int .i64 s.a) := fun x => (x.h.cell (p := ⟨(a.add (k * 10)).block, (a.add (k * 10)).off + 1, none⟩) za).trans e1
          have ca2 : ∀ x : Sub wr, x.w.cell? ⟨(a.add (k * 10)).block, (a.add (k * 10)).off + 2, none⟩ = some (.int .i64 s.b) := fun x => (x.h.cell (p := ⟨(a.add (k * 10)).block, (a.add (k * 10)).off + 2, none⟩) za).trans e2
          have ca3 : ∀ x : Sub wr, x.w.cell? ⟨(a.add (k * 10)).block, (a.add (k * 10)).off + 3, none⟩ = some (.int .i64 s.c) := fun x => (x.h.cell (p := ⟨(a.add (k * 10)).block, (a.add (k * 10)).off + 3, none⟩) za).trans e3
          have ca4 : ∀ x : Sub wr, x.w.cell? ⟨(a.add (k * 10)).block, (a.add (k * 10)).off + 4, none⟩ = some (.int .i64 s.d) := fun x => (x.h.cell (p := ⟨(a.add (k * 10)).block, (a.add (k * 10)).off + 4, none⟩) za).trans e4
          have ca5 : ∀ x : Sub wr, x.w.cell? ⟨(a.add (k * 10)).block, (a.add (k * 10)).off + 5, none⟩ = some (.int .i64 s.lo) := fun x => (x.h.cell (p := ⟨(a.add (k * 10)).block, (a.add (k * 10)).off + 5, none⟩) za).trans e5
          have ca6 : ∀ x : Sub wr, x.w.cell? ⟨(a.add (k * 10)).block, (a.add (k * 10)).off + 6, none⟩ = some (.int .i64 s.hi) := fun x => (x.h.cell (p := ⟨(a.add (k * 10)).block, (a.add (k * 10)).off + 6, none⟩) za).trans e6
          have ca7 : ∀ x : Sub wr, x.w.cell? ⟨(a.add (k * 10)).block, (a.add (k * 10)).off + 7, none⟩ = some (.int .u8 s.vk) := fun x => (x.h.cell (p := ⟨(a.add (k * 10)).block, (a.add (k * 10)).off + 7, none⟩) za).trans e7
          have ca8 : ∀ x : Sub wr, x.w.cell? ⟨(a.add (k * 10)).block, (a.add (k * 10)).off + 8, none⟩ = some (.int .u64 s.vb) := fun x => (x.h.cell (p := ⟨(a.add (k * 10)).block, (a.add (k * 10)).off + 8, none⟩) za).trans e8
          have ca9 : ∀ x : Sub wr, x.w.cell? ⟨(a.add (k * 10)).block, (a.add (k * 10)).off + 9, none⟩ = some (.string s.vs) := fun x => (x.h.cell (p := ⟨(a.add (k * 10)).block, (a.add (k * 10)).off + 9, none⟩) za).trans e9
          have cb0 : ∀ x : Sub wr, x.w.cell? (b.add (k * 10)) = some (.int .i64 t.cd) := fun x => (x.h.cell zb).trans d0
          have cb1 : ∀ x : Sub wr, x.w.cell? ⟨(b.add (k * 10)).block, (b.add (k * 10)).off + 1, none⟩ = some (.int .i64 t.a) := fun x => (x.h.cell (p := ⟨(b.add (k * 10)).block, (b.add (k * 10)).off + 1, none⟩) zb).trans d1
          have cb2 : ∀ x : Sub wr, x.w.cell? ⟨(b.add (k * 10)).block, (b.add (k * 10)).off + 2, none⟩ = some (.int .i64 t.b) := fun x => (x.h.cell (p := ⟨(b.add (k * 10)).block, (b.add (k * 10)).off + 2, none⟩) zb).trans d2
          have cb3 : ∀ x : Sub wr, x.w.cell? ⟨(b.add (k * 10)).block, (b.add (k * 10)).off + 3, none⟩ = some (.int .i64 t.c) := fun x => (x.h.cell (p := ⟨(b.add (k * 10)).block, (b.add (k * 10)).off + 3, none⟩) zb).trans d3
          have cb4 : ∀ x : Sub wr, x.w.cell? ⟨(b.add (k * 10)).block, (b.add (k * 10)).off + 4, none⟩ = some (.int .i64 t.d) := fun x => (x.h.cell (p := ⟨(b.add (k * 10)).block, (b.add (k * 10)).off + 4, none⟩) zb).trans d4
          have cb5 : ∀ x : Sub wr, x.w.cell? ⟨(b.add (k * 10)).block, (b.add (k * 10)).off + 5, none⟩ = some (.int .i64 t.lo) := fun x => (x.h.cell (p := ⟨(b.add (k * 10)).block, (b.add (k * 10)).off + 5, none⟩) zb).trans d5
          have cb6 : ∀ x : Sub wr, x.w.cell? ⟨(b.add (k * 10)).block, (b.add (k * 10)).off + 6, none⟩ = some (.int .i64 t.hi) := fun x => (x.h.cell (p := ⟨(b.add (k * 10)).block, (b.add (k * 10)).off + 6, none⟩) zb).trans d6
          have cb7 : ∀ x : Sub wr, x.w.cell? ⟨(b.add (k * 10)).block, (b.add (k * 10)).off + 7, none⟩ = some (.int .u8 t.vk) := fun x => (x.h.cell (p := ⟨(b.add (k * 10)).block, (b.add (k * 10)).off + 7, none⟩) zb).trans d7
          have cb8 : ∀ x : Sub wr, x.w.cell? ⟨(b.add (k * 10)).block, (b.add (k * 10)).off + 8, none⟩ = some (.int .u64 t.vb) := fun x => (x.h.cell (p := ⟨(b.add (k * 10)).block, (b.add (k * 10)).off + 8, none⟩) zb).trans d8
          have cb9 : ∀ x : Sub wr, x.w.cell? ⟨(b.add (k * 10)).block, (b.add (k * 10)).off + 9, none⟩ = some (.string t.vs) := fun x => (x.h.cell (p := ⟨(b.add (k * 10)).block, (b.add (k * 10)).off + 9, none⟩) zb).trans d9
          refine wp_region_sub2 (by kernel_rfl) (by kernel_rfl) ?_
          intro cx
          repeat (first | go_big_quiet_skip | (go_big_quiet_want; go_big_quiet_op; first | go_big_quiet_on | (refine ⟨_, fun _ => rfl, ?_⟩; go_big_quiet_on)))
          refine wpQuiet_nil ?_
          rintro _ ⟨y, rfl⟩
          have Y : Hid (Below w.heap.size w y.w) := HW.out.trans (y.h.mono HW.out.size)
          clear cx ca0 cb0 ca1 cb1 ca2 cb2 ca3 cb3 ca4 cb4 ca5 cb5 ca6 cb6 ca7 cb7 ca8 cb8 ca9 cb9
          have ed : decide (l = l') = false := decide_eq_false fun e => Q.out (by have a := ES.out; rw [e, ET.out] at a; exact (Option.some.inj a).symm)
          go_wp2
          go_ret
          exact ⟨by first | rfl | (rw [ed]; rfl) | rw [ed], Y.out⟩
      · have kl : ¬ (k : Int) < l.length := by omega
        have ed : decide (l = l') = true := decide_eq_true (List.ext_getElem? fun j => by
          by_cases hj : j < k
          · exact AL.out j hj
          · have := HN.out
            rw [List.getElem?_eq_none (by omega), List.getElem?_eq_none (by omega)])
        clear hbw hlt
        go_wp2
        go_ret
        exact ⟨by first | rfl | (rw [ed]; rfl) | rw [ed], HW.out⟩
  · have el' : ((l.length : Int) == (l'.length : Int)) = false := by rw [beq_eq_false_iff_ne]; omega
    have el2 : ((l.length : Int) != (l'.length : Int)) = true := by simp [bne, el']
    have ed : decide (l = l') = false := decide_eq_false fun e => el (by rw [e])
    clear el
    go_enter Tryz.func79, Tryz.ntmps79
    go_wp2
    go_ret
    exact ⟨by first | rfl | (rw [ed]; rfl) | rw [ed], Below.refl _ _⟩
theorem neL_t (s : LpR) (w : World) : (binOp .neq 99 (.agg #[.int .i64 s.hd, .int .i64 s.en, .int .i64 s.tm]) (.agg #[.int .i64 s.hd, .int .i64 s.en, .int .i64 s.tm])).run Tryz.prog w = .ok (.bool false) w := by simp [go_sem]
theorem neL_f (s t : LpR) (h : ¬ s = t) (w : World) : (binOp .neq 99 (.agg #[.int .i64 s.hd, .int .i64 s.en, .int .i64 s.tm]) (.agg #[.int .i64 t.hd, .int .i64 t.en, .int .i64 t.tm])).run Tryz.prog w = .ok (.bool true) w := by
  cases s with | mk s0 s1 s2 =>
  cases t with | mk t0 t1 t2 =>
  by_cases e0 : s0 = t0
  case neg => simp [go_sem, e0]
  subst e0
  by_cases e1 : s1 = t1
  case neg => simp [go_sem, e1]
  subst e1
  by_cases e2 : s2 = t2
  case neg => simp [go_sem, e2]
  subst e2
  exact absurd rfl h
set_option maxHeartbeats 4000000 in
theorem EqualL (x y : Option Addr) (l l' : List LpR) (c d : Nat) (w : World) {S : Nat → Prop} (hS : ∀ b, S b → b < w.heap.size) (ha : RwF 3 (Is lpC) S w x l) (hb : RwF 3 (Is lpC) S w y l') :
    Calls Tryz.prog 80 #[.slice x l.length c, .slice y l'.length d] w fun e w' => e = .returned (.bool (decide (l = l'))) ∧ Below w.heap.size w w' := by
  have HA : Hid (RwF 3 (Is lpC) S w x l) := ha
  have HB : Hid (RwF 3 (Is lpC) S w y l') := hb
  have HS : Hid _ := hS
  clear ha hb hS
  by_cases el : l.length = l'.length
  · generalize hn : l'.length = n at *
    have HN : Hid _ := hn
    clear hn
    subst el
    go_enter Tryz.func80, Tryz.ntmps80
    go_wp2_with fail
    go_loopw [13] (fun i wr => ∃ k : Nat, k ≤ l.length ∧ i = .int .i64 k ∧ Below w.heap.size w wr ∧ ∀ j, j < k → l[j]? = l'[j]?) (fun i _ => l.length - (intOf i).toNat)
    case atStart => exact ⟨0, Nat.zero_le _, rfl, Below.refl _ _, fun j hj => absurd hj (Nat.not_lt_zero _)⟩
    case round =>
      obtain ⟨k, hk, rfl, hbw, hall⟩ := hrel
      have HW : Hid (Below w.heap.size w wr) := hbw
      have AL : Hid _ := hall
      clear hall
      by_cases hlt : k < l.length
      · obtain ⟨a, rfl⟩ := HA.out.some (by omega)
        obtain ⟨b, rfl⟩ := HB.out.some (by have := HN.out; omega)
        obtain ⟨s, sv, se, _, rfl, sc⟩ := (HA.out.fr (fun q hq => hbw.cell (HS.out _ hq))).el k hlt
        have e0 := sc.c0
        have e1 := sc.cp 0 _ rfl
        have e2 := sc.cp 1 _ rfl
        obtain ⟨t, tv, te, _, rfl, tc⟩ := (HB.out.fr (fun q hq => hbw.cell (HS.out _ hq))).el k (by have := HN.out; omega)
        have d0 := tc.c0
        have d1 := tc.cp 0 _ rfl
        have d2 := tc.cp 1 _ rfl
        have ES : Hid (l[k]? = some s) := se
        have ET : Hid (l'[k]? = some t) := te
        have LT : Hid _ := hlt
        have kl : (k : Int) < l.length := by omega
        clear hbw se te hlt sc tc
        have za := block_lt_of_cell e0
        have zb := block_lt_of_cell d0
        by_cases q : s = t
        · subst q
          have f1 := neL_t s
          go_wp2_with fail
          have ca0 : ∀ x : Sub wr, x.w.cell? (a.add (k * 3)) = some (.int .i64 s.hd) := fun x => (x.h.cell za).trans e0
          have ca1 : ∀ x : Sub wr, x.w.cell? ⟨(a.add (k * 3)).block, (a.add (k * 3)).off + 1, none⟩ = some (.int .i64 s.en) := fun x => (x.h.cell (p := ⟨(a.add (k * 3)).block, (a.add (k * 3)).off + 1, none⟩) za).trans e1
          have ca2 : ∀ x : Sub wr, x.w.cell? ⟨(a.add (k * 3)).block, (a.add (k * 3)).off + 2, none⟩ = some (.int .i64 s.tm) := fun x => (x.h.cell (p := ⟨(a.add (k * 3)).block, (a.add (k * 3)).off + 2, none⟩) za).trans e2
          have cb0 : ∀ x : Sub wr, x.w.cell? (b.add (k * 3)) = some (.int .i64 s.hd) := fun x => (x.h.cell zb).trans d0
          have cb1 : ∀ x : Sub wr, x.w.cell? ⟨(b.add (k * 3)).block, (b.add (k * 3)).off + 1, none⟩ = some (.int .i64 s.en) := fun x => (x.h.cell (p := ⟨(b.add (k * 3)).block, (b.add (k * 3)).off + 1, none⟩) zb).trans d1
          have cb2 : ∀ x : Sub wr, x.w.cell? ⟨(b.add (k * 3)).block, (b.add (k * 3)).off + 2, none⟩ = some (.int .i64 s.tm) := fun x => (x.h.cell (p := ⟨(b.add (k * 3)).block, (b.add (k * 3)).off + 2, none⟩) zb).trans d2
          refine wp_region_sub2 (by kernel_rfl) (by kernel_rfl) ?_
          intro cx
          repeat (first | go_big_quiet_skip | (go_big_quiet_want; go_big_quiet_op; first | go_big_quiet_on | (refine ⟨_, fun _ => rfl, ?_⟩; go_big_quiet_on)))
          refine wpQuiet_nil ?_
          rintro _ ⟨y, rfl⟩
          have Y : Hid (Below wr.heap.size wr y.w) := y.h
          clear cx ca0 cb0 ca1 cb1 ca2 cb2
          have ew : wrap64 ((k : Int) + 1) = (k : Int) + 1 := by have := HA.out.1; have := LT.out; unfold wrap64; omega
          go_wp2
          rw [ew]
          exact ⟨⟨k + 1, Nat.succ_le_of_lt LT.out, rfl, HW.out.trans (Y.out.mono HW.out.size), fun j hj => by rcases Nat.lt_succ_iff_lt_or_eq.1 hj with h | rfl; exact AL.out j h; exact ES.out.trans ET.out.symm⟩, msr LT.out⟩
        · have f2 := neL_f s t q
          have Q : Hid _ := q
          clear q
          go_wp2_with fail
          have ca0 : ∀ x : Sub wr, x.w.cell? (a.add (k * 3)) = some (.int .i64 s.hd) := fun x => (x.h.cell za).trans e0
          have ca1 : ∀ x : Sub wr, x.w.cell? ⟨(a.add (k * 3)).block, (a.add (k * 3)).off + 1, none⟩ = some (.int .i64 s.en) := fun x => (x.h.cell (p := ⟨(a.add (k * 3)).block, (a.add (k * 3)).off + 1, none⟩) za).trans e1
          have ca2 : ∀ x : Sub wr, x.w.cell? ⟨(a.add (k * 3)).block, (a.add (k * 3)).off + 2, none⟩ = some (.int .i64 s.tm) := fun x => (x.h.cell (p := ⟨(a.add (k * 3)).block, (a.add (k * 3)).off + 2, none⟩) za).trans e2
          have cb0 : ∀ x : Sub wr, x.w.cell? (b.add (k * 3)) = some (.int .i64 t.hd) := fun x => (x.h.cell zb).trans d0
          have cb1 : ∀ x : Sub wr, x.w.cell? ⟨(b.add (k * 3)).block, (b.add (k * 3)).off + 1, none⟩ = some (.int .i64 t.en) := fun x => (x.h.cell (p := ⟨(b.add (k * 3)).block, (b.add (k * 3)).off + 1, none⟩) zb).trans d1
          have cb2 : ∀ x : Sub wr, x.w.cell? ⟨(b.add (k * 3)).block, (b.add (k * 3)).off + 2, none⟩ = some (.int .i64 t.tm) := fun x => (x.h.cell (p := ⟨(b.add (k * 3)).block, (b.add (k * 3)).off + 2, none⟩) zb).trans d2
          refine wp_region_sub2 (by kernel_rfl) (by kernel_rfl) ?_
          intro cx
          repeat (first | go_big_quiet_skip | (go_big_quiet_want; go_big_quiet_op; first | go_big_quiet_on | (refine ⟨_, fun _ => rfl, ?_⟩; go_big_quiet_on)))
          refine wpQuiet_nil ?_
          rintro _ ⟨y, rfl⟩
          have Y : Hid (Below w.heap.size w y.w) := HW.out.trans (y.h.mono HW.out.size)
          clear cx ca0 cb0 ca1 cb1 ca2 cb2
          have ed : decide (l = l') = false := decide_eq_false fun e => Q.out (by have a := ES.out; rw [e, ET.out] at a; exact (Option.some.inj a).symm)
          go_wp2
          go_ret
          exact ⟨by first | rfl | (rw [ed]; rfl) | rw [ed], Y.out⟩
      · have kl : ¬ (k : Int) < l.length := by omega
        have ed : decide (l = l') = true := decide_eq_true (List.ext_getElem? fun j => by
          by_cases hj : j < k
          · exact AL.out j hj
          · have := HN.out
            rw [List.getElem?_eq_none (by omega), List.getElem?_eq_none (by omega)])
        clear hbw hlt
        go_wp2
        go_ret
        exact ⟨by first | rfl | (rw [ed]; rfl) | rw [ed], HW.out⟩
  · have el' : ((l.length : Int) == (l'.length : Int)) = false := by rw [beq_eq_false_iff_ne]; omega
    have el2 : ((l.length : Int) != (l'.length : Int)) = true := by simp [bne, el']
    have ed : decide (l = l') = false := decide_eq_false fun e => el (by rw [e])
    clear el
    go_enter Tryz.func80, Tryz.ntmps80
    go_wp2
    go_ret
    exact ⟨by first | rfl | (rw [ed]; rfl) | rw [ed], Below.refl _ _⟩
set_option maxHeartbeats 4000000 in
theorem EqualN (x y : Option Addr) (l l' : List Int) (c d : Nat) (w : World) {S : Nat → Prop} (hS : ∀ b, S b → b < w.heap.size) (ha : RwF 1 (Is inC) S w x l) (hb : RwF 1 (Is inC) S w y l') :
    Calls Tryz.prog 48 #[.slice x l.length c, .slice y l'.length d] w fun e w' => e = .returned (.bool (decide (l = l'))) ∧ Below w.heap.size w w' := by
  have HA : Hid (RwF 1 (Is inC) S w x l) := ha
  have HB : Hid (RwF 1 (Is inC) S w y l') := hb
  have HS : Hid _ := hS
  clear ha hb hS
  by_cases el : l.length = l'.length
  · generalize hn : l'.length = n at *
    have HN : Hid _ := hn
    clear hn
    subst el
    go_enter Tryz.func48, Tryz.ntmps48
    go_wp2_with fail
    go_loopw [13] (fun i wr => ∃ k : Nat, k ≤ l.length ∧ i = .int .i64 k ∧ Below w.heap.size w wr ∧ ∀ j, j < k → l[j]? = l'[j]?) (fun i _ => l.length - (intOf i).toNat)
    case atStart => exact ⟨0, Nat.zero_le _, rfl, Below.refl _ _, fun j hj => absurd hj (Nat.not_lt_zero _)⟩
    case round =>
      obtain ⟨k, hk, rfl, hbw, hall⟩ := hrel
      have HW : Hid (Below w.heap.size w wr) := hbw
      have AL : Hid _ := hall
      clear hall
      by_cases hlt : k < l.length
      · obtain ⟨a, rfl⟩ := HA.out.some (by omega)
        obtain ⟨b, rfl⟩ := HB.out.some (by have := HN.out; omega)
        obtain ⟨s, sv, se, _, rfl, sc⟩ := (HA.out.fr (fun q hq => hbw.cell (HS.out _ hq))).el k hlt
        rw [Nat.mul_one] at sc
        have e0 := sc.c0
        obtain ⟨t, tv, te, _, rfl, tc⟩ := (HB.out.fr (fun q hq => hbw.cell (HS.out _ hq))).el k (by have := HN.out; omega)
        rw [Nat.mul_one] at tc
        have d0 := tc.c0
        have ES : Hid (l[k]? = some s) := se
        have ET : Hid (l'[k]? = some t) := te
        have LT : Hid _ := hlt
        have kl : (k : Int) < l.length := by omega
        clear hbw se te hlt sc tc
        have za := block_lt_of_cell e0
        have zb := block_lt_of_cell d0
        by_cases q : s = t
        · subst q
          have f1 : (s == s) = true := by simp
          go_wp2_with fail
          have ca0 : ∀ x : Sub wr, x.w.cell? (a.add k) = some (.int .i64 s) := fun x => (x.h.cell za).trans e0
          have cb0 : ∀ x : Sub wr, x.w.cell? (b.add k) = some (.int .i64 s) := fun x => (x.h.cell zb).trans d0
          refine wp_region_sub2 (by kernel_rfl) (by kernel_rfl) ?_
          intro cx
          repeat (first | go_big_quiet_skip | (go_big_quiet_want; go_big_quiet_op; first | go_big_quiet_on | (refine ⟨_, fun _ => rfl, ?_⟩; go_big_quiet_on)))
          refine wpQuiet_nil ?_
          rintro _ ⟨y, rfl⟩
          have Y : Hid (Below wr.heap.size wr y.w) := y.h
          clear cx ca0 cb0
          have ew : wrap64 ((k : Int) + 1) = (k : Int) + 1 := by have := HA.out.1; have := LT.out; unfold wrap64; omega
          go_wp2
          rw [ew]
          exact ⟨⟨k + 1, Nat.succ_le_of_lt LT.out, rfl, HW.out.trans (Y.out.mono HW.out.size), fun j hj => by rcases Nat.lt_succ_iff_lt_or_eq.1 hj with h | rfl; exact AL.out j h; exact ES.out.trans ET.out.symm⟩, msr LT.out⟩
        · have f1 : (s == t) = false := by simp [q]
          have f2 : (s != t) = true := by simp [bne, f1]
          have Q : Hid _ := q
          clear q
          go_wp2_with fail
          have ca0 : ∀ x : Sub wr, x.w.cell? (a.add k) = some (.int .i64 s) := fun x => (x.h.cell za).trans e0
          have cb0 : ∀ x : Sub wr, x.w.cell? (b.add k) = some (.int .i64 t) := fun x => (x.h.cell zb).trans d0
          refine wp_region_sub2 (by kernel_rfl) (by kernel_rfl) ?_
          intro cx
          repeat (first | go_big_quiet_skip | (go_big_quiet_want; go_big_quiet_op; first | go_big_quiet_on | (refine ⟨_, fun _ => rfl, ?_⟩; go_big_quiet_on)))
          refine wpQuiet_nil ?_
          rintro _ ⟨y, rfl⟩
          have Y : Hid (Below w.heap.size w y.w) := HW.out.trans (y.h.mono HW.out.size)
          clear cx ca0 cb0
          have ed : decide (l = l') = false := decide_eq_false fun e => Q.out (by have a := ES.out; rw [e, ET.out] at a; exact (Option.some.inj a).symm)
          go_wp2
          go_ret
          exact ⟨by first | rfl | (rw [ed]; rfl) | rw [ed], Y.out⟩
      · have kl : ¬ (k : Int) < l.length := by omega
        have ed : decide (l = l') = true := decide_eq_true (List.ext_getElem? fun j => by
          by_cases hj : j < k
          · exact AL.out j hj
          · have := HN.out
            rw [List.getElem?_eq_none (by omega), List.getElem?_eq_none (by omega)])
        clear hbw hlt
        go_wp2
        go_ret
        exact ⟨by first | rfl | (rw [ed]; rfl) | rw [ed], HW.out⟩
  · have el' : ((l.length : Int) == (l'.length : Int)) = false := by rw [beq_eq_false_iff_ne]; omega
    have el2 : ((l.length : Int) != (l'.length : Int)) = true := by simp [bne, el']
    have ed : decide (l = l') = false := decide_eq_false fun e => el (by rw [e])
    clear el
    go_enter Tryz.func48, Tryz.ntmps48
    go_wp2
    go_ret
    exact ⟨by first | rfl | (rw [ed]; rfl) | rw [ed], Below.refl _ _⟩
end Go.Proofs.YtpcjnhffpkpchaaGreat
namespace Go.Proofs.YtpcjnhffpkpchaaGreat
set_option linter.unusedVariables false
open Go.RowKit
theorem two_at (w2 : World) (X Y : Obj) : ((w2.alloc X).alloc Y).heap[w2.heap.size]? = some X ∧ ((w2.alloc X).alloc Y).heap[w2.heap.size + 1]? = some Y := by
  have q := heap_alloc_last (w2.alloc X) Y
  rw [show (w2.alloc X).heap.size = w2.heap.size + 1 by simp] at q
  exact ⟨(Below.heap_alloc _ _ _ (by simp)).trans (heap_alloc_last _ _), q⟩
set_option maxHeartbeats 4000000 in
theorem SameFlat_of (f f' : FlR) (x1 x2 y1 y2 : Option Addr) (c1 c2 d1 d2 : Nat) (w : World) {S : Nat → Prop} (hS : ∀ b, S b → b < w.heap.size) (ha : FlQ S w f x1 x2) (hb : FlQ S w f' y1 y2) :
    Calls Tryz.prog 47 #[.agg #[.string f.nm, .int .i64 f.wh, .int .i64 f.ce, .int .i64 f.ba, .int .i64 f.rg, .int .i64 f.sl, .slice x1 f.os.length c1, .slice x2 f.ls.length c2], .agg #[.string f'.nm, .int .i64 f'.wh, .int .i64 f'.ce, .int .i64 f'.ba, .int .i64 f'.rg, .int .i64 f'.sl, .slice y1 f'.os.length d1, .slice y2 f'.ls.length d2]] w fun e w' => e = .returned (.bool (decide (f = f'))) ∧ Below w.heap.size w w' := by
  have Q1 : Hid (∀ W, Below w.heap.size w W → Calls Tryz.prog 79 #[.slice x1 f.os.length c1, .slice y1 f'.os.length d1] W fun e w' => e = .returned (.bool (decide (f.os = f'.os))) ∧ Below W.heap.size W w') := fun W hb' => EqualO _ _ _ _ _ _ _ (fun b h => Nat.lt_of_lt_of_le (hS b h) hb'.size) (ha.1.fr (fun q hq => hb'.cell (hS _ hq))) (hb.1.fr (fun q hq => hb'.cell (hS _ hq)))
  have Q2 : Hid (∀ W, Below w.heap.size w W → Calls Tryz.prog 80 #[.slice x2 f.ls.length c2, .slice y2 f'.ls.length d2] W fun e w' => e = .returned (.bool (decide (f.ls = f'.ls))) ∧ Below W.heap.size W w') := fun W hb' => EqualL _ _ _ _ _ _ _ (fun b h => Nat.lt_of_lt_of_le (hS b h) hb'.size) (ha.2.fr (fun q hq => hb'.cell (hS _ hq))) (hb.2.fr (fun q hq => hb'.cell (hS _ hq)))
  clear ha hb hS
  have GR : Hid (∀ X Y : Obj, Below w.heap.size w ((w.alloc X).alloc Y)) := fun X Y => ((Below.refl _ _).alloc (Nat.le_refl _) _).alloc (by simp) _
  obtain ⟨nm, wh, ce, ba, rg, sl, os, ls⟩ := f
  obtain ⟨nm', wh', ce', ba', rg', sl', os', ls'⟩ := f'
  simp only at Q1 Q2 ⊢
  by_cases E0 : nm = nm'
  case neg =>
    have q1 : (nm.toList == nm'.toList) = false := by apply Bool.eq_false_iff.2; intro q; exact E0 (ba_ext (by simpa using q))
    have q2 : (nm.toList != nm'.toList) = true := by simp [bne, q1]
    have ed : decide (((⟨nm, wh, ce, ba, rg, sl, os, ls⟩ : FlR)) = ⟨nm', wh', ce', ba', rg', sl', os', ls'⟩) = false := decide_eq_false fun e => E0 (by injection e)
    clear E0
    rw [ed]
    clear ed
    go_enter Tryz.func47, Tryz.ntmps47
    go_wp2
    go_ret
    exact ⟨rfl, GR.out _ _⟩
  subst E0
  by_cases E1 : wh = wh'
  case neg =>
    have q1 : (wh == wh') = false := by simp [E1]
    have q2 : (wh != wh') = true := by simp [bne, q1]
    have ed : decide (((⟨nm, wh, ce, ba, rg, sl, os, ls⟩ : FlR)) = ⟨nm, wh', ce', ba', rg', sl', os', ls'⟩) = false := decide_eq_false fun e => E1 (by injection e)
    clear E1
    rw [ed]
    clear ed
    go_enter Tryz.func47, Tryz.ntmps47
    go_wp2
    go_ret
    exact ⟨rfl, GR.out _ _⟩
  subst E1
  by_cases E2 : ce = ce'
  case neg =>
    have q1 : (ce == ce') = false := by simp [E2]
    have q2 : (ce != ce') = true := by simp [bne, q1]
    have ed : decide (((⟨nm, wh, ce, ba, rg, sl, os, ls⟩ : FlR)) = ⟨nm, wh, ce', ba', rg', sl', os', ls'⟩) = false := decide_eq_false fun e => E2 (by injection e)
    clear E2
    rw [ed]
    clear ed
    go_enter Tryz.func47, Tryz.ntmps47
    go_wp2
    go_ret
    exact ⟨rfl, GR.out _ _⟩
  subst E2
  by_cases E3 : ba = ba'
  case neg =>
    have q1 : (ba == ba') = false := by simp [E3]
    have q2 : (ba != ba') = true := by simp [bne, q1]
    have ed : decide (((⟨nm, wh, ce, ba, rg, sl, os, ls⟩ : FlR)) = ⟨nm, wh, ce, ba', rg', sl', os', ls'⟩) = false := decide_eq_false fun e => E3 (by injection e)
    clear E3
    rw [ed]
    clear ed
    go_enter Tryz.func47, Tryz.ntmps47
    go_wp2
    go_ret
    exact ⟨rfl, GR.out _ _⟩
  subst E3
  by_cases E4 : rg = rg'
  case neg =>
    have q1 : (rg == rg') = false := by simp [E4]
    have q2 : (rg != rg') = true := by simp [bne, q1]
    have ed : decide (((⟨nm, wh, ce, ba, rg, sl, os, ls⟩ : FlR)) = ⟨nm, wh, ce, ba, rg', sl', os', ls'⟩) = false := decide_eq_false fun e => E4 (by injection e)
    clear E4
    rw [ed]
    clear ed
    go_enter Tryz.func47, Tryz.ntmps47
    go_wp2
    go_ret
    exact ⟨rfl, GR.out _ _⟩
  subst E4
  by_cases E5 : sl = sl'
  case neg =>
    have q1 : (sl == sl') = false := by simp [E5]
    have q2 : (sl != sl') = true := by simp [bne, q1]
    have ed : decide (((⟨nm, wh, ce, ba, rg, sl, os, ls⟩ : FlR)) = ⟨nm, wh, ce, ba, rg, sl', os', ls'⟩) = false := decide_eq_false fun e => E5 (by injection e)
    clear E5
    rw [ed]
    clear ed
    go_enter Tryz.func47, Tryz.ntmps47
    go_wp2
    go_ret
    exact ⟨rfl, GR.out _ _⟩
  subst E5
  have ed : decide ((⟨nm, wh, ce, ba, rg, sl, os, ls⟩ : FlR) = ⟨nm, wh, ce, ba, rg, sl, os', ls'⟩) = (decide (os = os') && decide (ls = ls')) := by
    rw [← Bool.decide_and]
    apply decide_eq_decide.2
    constructor
    · intro e; injection e; exact ⟨by assumption, by assumption⟩
    · rintro ⟨h1, h2⟩
      rw [h1, h2]
  rw [ed]
  clear ed
  generalize decide (os = os') = r1 at *
  generalize decide (ls = ls') = r2 at *
  go_enter Tryz.func47, Tryz.ntmps47
  go_wp2_with fail
  refine (Q1.out _ (GR.out _ _)).mono ?_
  rintro e w1 ⟨rfl, hb⟩
  have X1 := (hb.block w.heap.size (by simp; omega)).trans (two_at w _ _).1
  have Y1 := (hb.block (w.heap.size + 1) (by simp)).trans (two_at w _ _).2
  have k1 : w1.cell? ⟨w.heap.size, 7, none⟩ = some (.slice x2 ls.length c2) := by simp [World.cell?, X1]
  have k2 : w1.cell? ⟨w.heap.size + 1, 7, none⟩ = some (.slice y2 ls'.length d2) := by simp [World.cell?, Y1]
  have B1 : Hid (Below w.heap.size w w1) := (GR.out _ _).trans (hb.mono (GR.out _ _).size)
  clear hb X1 Y1
  cases r1
  · go_wp2
    go_ret
    exact ⟨rfl, B1.out⟩
  · go_wp2_with fail
    refine (Q2.out _ B1.out).mono ?_
    rintro e w2 ⟨rfl, hb⟩
    have B2 : Hid (Below w.heap.size w w2) := B1.out.trans (hb.mono B1.out.size)
    clear hb
    cases r2
    all_goals
      go_wp2
      go_ret
      exact ⟨rfl, B2.out⟩
set_option maxHeartbeats 4000000 in
theorem SameJob_of (f f' : JbR) (x1 x2 y1 y2 : Option Addr) (c1 c2 d1 d2 : Nat) (w : World) {S : Nat → Prop} (hS : ∀ b, S b → b < w.heap.size) (ha : JbQ S w f x1 x2) (hb : JbQ S w f' y1 y2) :
    Calls Tryz.prog 21 #[.agg #[.string f.nm, .int .i64 f.iv, .int .i64 f.sg, .int .i64 f.pr, .slice x1 f.cs.length c1, .slice x2 f.bs.length c2, .int .i64 f.bd], .agg #[.string f'.nm, .int .i64 f'.iv, .int .i64 f'.sg, .int .i64 f'.pr, .slice y1 f'.cs.length d1, .slice y2 f'.bs.length d2, .int .i64 f'.bd]] w fun e w' => e = .returned (.bool (decide (f = f'))) ∧ Below w.heap.size w w' := by
  have Q1 : Hid (∀ W, Below w.heap.size w W → Calls Tryz.prog 48 #[.slice x1 f.cs.length c1, .slice y1 f'.cs.length d1] W fun e w' => e = .returned (.bool (decide (f.cs = f'.cs))) ∧ Below W.heap.size W w') := fun W hb' => EqualN _ _ _ _ _ _ _ (fun b h => Nat.lt_of_lt_of_le (hS b h) hb'.size) (ha.1.fr (fun q hq => hb'.cell (hS _ hq))) (hb.1.fr (fun q hq => hb'.cell (hS _ hq)))
  have Q2 : Hid (∀ W, Below w.heap.size w W → Calls Tryz.prog 48 #[.slice x2 f.bs.length c2, .slice y2 f'.bs.length d2] W fun e w' => e = .returned (.bool (decide (f.bs = f'.bs))) ∧ Below W.heap.size W w') := fun W hb' => EqualN _ _ _ _ _ _ _ (fun b h => Nat.lt_of_lt_of_le (hS b h) hb'.size) (ha.2.fr (fun q hq => hb'.cell (hS _ hq))) (hb.2.fr (fun q hq => hb'.cell (hS _ hq)))
  clear ha hb hS
  have GR : Hid (∀ X Y : Obj, Below w.heap.size w ((w.alloc X).alloc Y)) := fun X Y => ((Below.refl _ _).alloc (Nat.le_refl _) _).alloc (by simp) _
  obtain ⟨nm, iv, sg, pr, cs, bs, bd⟩ := f
  obtain ⟨nm', iv', sg', pr', cs', bs', bd'⟩ := f'
  simp only at Q1 Q2 ⊢
  by_cases E0 : nm = nm'
  case neg =>
    have q1 : (nm.toList == nm'.toList) = false := by apply Bool.eq_false_iff.2; intro q; exact E0 (ba_ext (by simpa using q))
    have q2 : (nm.toList != nm'.toList) = true := by simp [bne, q1]
    have ed : decide (((⟨nm, iv, sg, pr, cs, bs, bd⟩ : JbR)) = ⟨nm', iv', sg', pr', cs', bs', bd'⟩) = false := decide_eq_false fun e => E0 (by injection e)
    clear E0
    rw [ed]
    clear ed
    go_enter Tryz.func21, Tryz.ntmps21
    go_wp2
    go_ret
    exact ⟨rfl, GR.out _ _⟩
  subst E0
  by_cases E1 : iv = iv'
  case neg =>
    have q1 : (iv == iv') = false := by simp [E1]
    have q2 : (iv != iv') = true := by simp [bne, q1]
    have ed : decide (((⟨nm, iv, sg, pr, cs, bs, bd⟩ : JbR)) = ⟨nm, iv', sg', pr', cs', bs', bd'⟩) = false := decide_eq_false fun e => E1 (by injection e)
    clear E1
    rw [ed]
    clear ed
    go_enter Tryz.func21, Tryz.ntmps21
    go_wp2
    go_ret
    exact ⟨rfl, GR.out _ _⟩
  subst E1
  by_cases E2 : sg = sg'
  case neg =>
    have q1 : (sg == sg') = false := by simp [E2]
    have q2 : (sg != sg') = true := by simp [bne, q1]
    have ed : decide (((⟨nm, iv, sg, pr, cs, bs, bd⟩ : JbR)) = ⟨nm, iv, sg', pr', cs', bs', bd'⟩) = false := decide_eq_false fun e => E2 (by injection e)
    clear E2
    rw [ed]
    clear ed
    go_enter Tryz.func21, Tryz.ntmps21
    go_wp2
    go_ret
    exact ⟨rfl, GR.out _ _⟩
  subst E2
  by_cases E3 : pr = pr'
  case neg =>
    have q1 : (pr == pr') = false := by simp [E3]
    have q2 : (pr != pr') = true := by simp [bne, q1]
    have ed : decide (((⟨nm, iv, sg, pr, cs, bs, bd⟩ : JbR)) = ⟨nm, iv, sg, pr', cs', bs', bd'⟩) = false := decide_eq_false fun e => E3 (by injection e)
    clear E3
    rw [ed]
    clear ed
    go_enter Tryz.func21, Tryz.ntmps21
    go_wp2
    go_ret
    exact ⟨rfl, GR.out _ _⟩
  subst E3
  by_cases E4 : bd = bd'
  case neg =>
    have q1 : (bd == bd') = false := by simp [E4]
    have q2 : (bd != bd') = true := by simp [bne, q1]
    have ed : decide (((⟨nm, iv, sg, pr, cs, bs, bd⟩ : JbR)) = ⟨nm, iv, sg, pr, cs', bs', bd'⟩) = false := decide_eq_false fun e => E4 (by injection e)
    clear E4
    rw [ed]
    clear ed
    go_enter Tryz.func21, Tryz.ntmps21
    go_wp2
    go_ret
    exact ⟨rfl, GR.out _ _⟩
  subst E4
  have ed : decide ((⟨nm, iv, sg, pr, cs, bs, bd⟩ : JbR) = ⟨nm, iv, sg, pr, cs', bs', bd⟩) = (decide (cs = cs') && decide (bs = bs')) := by
    rw [← Bool.decide_and]
    apply decide_eq_decide.2
    constructor
    · intro e; injection e; exact ⟨by assumption, by assumption⟩
    · rintro ⟨h1, h2⟩
      rw [h1, h2]
  rw [ed]
  clear ed
  generalize decide (cs = cs') = r1 at *
  generalize decide (bs = bs') = r2 at *
  go_enter Tryz.func21, Tryz.ntmps21
  go_wp2_with fail
  refine (Q1.out _ (GR.out _ _)).mono ?_
  rintro e w1 ⟨rfl, hb⟩
  have X1 := (hb.block w.heap.size (by simp; omega)).trans (two_at w _ _).1
  have Y1 := (hb.block (w.heap.size + 1) (by simp)).trans (two_at w _ _).2
  have k1 : w1.cell? ⟨w.heap.size, 5, none⟩ = some (.slice x2 bs.length c2) := by simp [World.cell?, X1]
  have k2 : w1.cell? ⟨w.heap.size + 1, 5, none⟩ = some (.slice y2 bs'.length d2) := by simp [World.cell?, Y1]
  have B1 : Hid (Below w.heap.size w w1) := (GR.out _ _).trans (hb.mono (GR.out _ _).size)
  clear hb X1 Y1
  cases r1
  · go_wp2
    go_ret
    exact ⟨rfl, B1.out⟩
  · go_wp2_with fail
    refine (Q2.out _ B1.out).mono ?_
    rintro e w2 ⟨rfl, hb⟩
    have B2 : Hid (Below w.heap.size w w2) := B1.out.trans (hb.mono B1.out.size)
    clear hb
    cases r2
    all_goals
      go_wp2
      go_ret
      exact ⟨rfl, B2.out⟩
end Go.Proofs.YtpcjnhffpkpchaaGreat
