/- Rows of records compared; no statement of the seat is proved here. -/
import Derived.Test.YtdcjngakmkgbmaaGreatKoA1
namespace Go.Proofs.YtdcjngakmkgbmaaGreat
set_option linter.unusedVariables false
open Go.RowKit
noncomputable instance : DecidableEq CeR := fun _ _ => Classical.propDecidable _
noncomputable instance : DecidableEq OpR := fun _ _ => Classical.propDecidable _
noncomputable instance : DecidableEq LpR := fun _ _ => Classical.propDecidable _
noncomputable instance : DecidableEq FlR := fun _ _ => Classical.propDecidable _
noncomputable instance : DecidableEq JbR := fun _ _ => Classical.propDecidable _
noncomputable instance : DecidableEq ImR := fun _ _ => Classical.propDecidable _
theorem neC_t (s : CeR) (w : World) : (binOp .neq 40 (.agg #[.int .u8 s.kd, .bool s.sb, .int .i64 s.lo, .int .i64 s.hi, .int .i64 s.mx, .int .u8 s.ik, .int .u64 s.ib, .string s.is, .bool s.kp, .int .i64 s.dr, .string s.ad]) (.agg #[.int .u8 s.kd, .bool s.sb, .int .i64 s.lo, .int .i64 s.hi, .int .i64 s.mx, .int .u8 s.ik, .int .u64 s.ib, .string s.is, .bool s.kp, .int .i64 s.dr, .string s.ad])).run Tryz.prog w = .ok (.bool false) w := by simp [go_sem]
theorem neC_f (s t : CeR) (h : ¬ s = t) (w : World) : (binOp .neq 40 (.agg #[.int .u8 s.kd, .bool s.sb, .int .i64 s.lo, .int .i64 s.hi, .int .i64 s.mx, .int .u8 s.ik, .int .u64 s.ib, .string s.is, .bool s.kp, .int .i64 s.dr, .string s.ad]) (.agg #[.int .u8 t.kd, .bool t.sb, .int .i64 t.lo, .int .i64 t.hi, .int .i64 t.mx, .int .u8 t.ik, .int .u64 t.ib, .string t.is, .bool t.kp, .int .i64 t.dr, .string t.ad])).run Tryz.prog w = .ok (.bool true) w := by
  cases s with | mk s0 s1 s2 s3 s4 s5 s6 s7 s8 s9 s10 =>
  cases t with | mk t0 t1 t2 t3 t4 t5 t6 t7 t8 t9 t10 =>
  by_cases e0 : s0 = t0
  case neg => simp [go_sem, e0]
  subst e0
  by_cases e1 : s1 = t1
  case neg => simp [go_sem, e1]
  subst e1
  by_cases e2 : s2 = t2
  case neg => simp [go_sem, e2]
  subst e2
  by_cases e3 : s3 = t3
  case neg => simp [go_sem, e3]
  subst e3
  by_cases e4 : s4 = t4
  case neg => simp [go_sem, e4]
  subst e4
  by_cases e5 : s5 = t5
  case neg => simp [go_sem, e5]
  subst e5
  by_cases e6 : s6 = t6
  case neg => simp [go_sem, e6]
  subst e6
  by_cases e7 : s7.toList = t7.toList
  case neg => simp [go_sem, e7]
  obtain rfl := ba_ext e7
  by_cases e8 : s8 = t8
  case neg => simp [go_sem, e8]
  subst e8
  by_cases e9 : s9 = t9
  case neg => simp [go_sem, e9]
  subst e9
  by_cases e10 : s10.toList = t10.toList
  case neg => simp [go_sem, e10]
  obtain rfl := ba_ext e10
  exact absurd rfl h
set_option maxHeartbeats 4000000 in
theorem EqualC (x y : Option Addr) (l l' : List CeR) (c d : Nat) (w : World) {S : Nat → Prop} (hS : ∀ b, S b → b < w.heap.size) (ha : RwF 11 (Is ceC) S w x l) (hb : RwF 11 (Is ceC) S w y l') :
    Calls Tryz.prog 15 #[.slice x l.length c, .slice y l'.length d] w fun e w' => e = .returned (.bool (decide (l = l'))) ∧ Below w.heap.size w w' := by
  have HA : Hid (RwF 11 (Is ceC) S w x l) := ha
  have HB : Hid (RwF 11 (Is ceC) S w y l') := hb
  have HS : Hid _ := hS
  clear ha hb hS
  by_cases el : l.length = l'.length
  · generalize hn : l'.length = n at *
    have HN : Hid _ := hn
    clear hn
    subst el
    go_enter Tryz.func15, Tryz.ntmps15
    go_wp2_with fail
    go_loopw [13] (fun i wr => ∃ k : Nat, k ≤ l.length ∧ i = .int .i64 k ∧ Below w.heap.size w wr ∧ ∀ j, j < k → l[j]? = l'[j]?) (fun i _ => l.length - (intOf i).toNat)
    case atStart => exact ⟨0, Nat.zero_le _, rfl, Below.refl _ _, fun j hj => absurd hj (Nat.not_lt_zero _)⟩
    case round =>
      obtain ⟨k, hk, rfl, hbw, hall⟩ := hrel
      have HW : Hid (Below w.heap.size w wr) := hbw
      have AL : Hid _ := hall
      clear hall
      by_cases hlt : k < l.length
      · obtain ⟨a, rfl⟩ := HA.out.some (by omega)
        obtain ⟨b, rfl⟩ := HB.out.some (by have := HN.out; omega)
        obtain ⟨s, sv, se, _, rfl, sc⟩ := (HA.out.fr (fun q hq => hbw.cell (HS.out _ hq))).el k hlt
        have e0 := sc.c0
        have e1 := sc.cp 0 _ rfl
        have e2 := sc.cp 1 _ rfl
        have e3 := sc.cp 2 _ rfl
        have e4 := sc.cp 3 _ rfl
        have e5 := sc.cp 4 _ rfl
        have e6 := sc.cp 5 _ rfl
        have e7 := sc.cp 6 _ rfl
        have e8 := sc.cp 7 _ rfl
        have e9 := sc.cp 8 _ rfl
        have e10 := sc.cp 9 _ rfl
        obtain ⟨t, tv, te, _, rfl, tc⟩ := (HB.out.fr (fun q hq => hbw.cell (HS.out _ hq))).el k (by have := HN.out; omega)
        have d0 := tc.c0
        have d1 := tc.cp 0 _ rfl
        have d2 := tc.cp 1 _ rfl
        have d3 := tc.cp 2 _ rfl
        have d4 := tc.cp 3 _ rfl
        have d5 := tc.cp 4 _ rfl
        have d6 := tc.cp 5 _ rfl
        have d7 := tc.cp 6 _ rfl
        have d8 := tc.cp 7 _ rfl
        have d9 := tc.cp 8 _ rfl
        have d10 := tc.cp 9 _ rfl
        have ES : Hid (l[k]? = some s) := se
        have ET : Hid (l'[k]? = some t) := te
        have LT : Hid _ := hlt
        have kl : (k : Int) < l.length := by omega
        clear hbw se te hlt sc tc
        have za := block_lt_of_cell e0
        have zb := block_lt_of_cell d0
        by_cases q : s = t
        · subst q
          have f1 := neC_t s
          go_wp2_with fail
          have ca0 : ∀ x : Sub wr, x.w.cell? (a.add (k * 11)) = some (.int .u8 s.kd) := fun x => (x.h.cell za).trans e0
          have ca1 : ∀ x : Sub wr, x.w.cell? ⟨(a.add (k * 11)).block, (a.add (k * 11)).off + 1, none⟩ = some (.bool s.sb) := fun x => (x.h.cell (p := ⟨(a.add (k * 11)).block, (a.add (k * 11)).off + 1, none⟩) za).trans e1
          have ca2 : ∀ x : Sub wr, x.w.cell? ⟨(a.add (k * 11)).block, (a.add (k * 11)).off + 2, none⟩ = some (.int .i64 s.lo) := fun x => (x.h.cell (p := ⟨(a.add (k * 11)).block, (a.add (k * 11)).off + 2, none⟩) za).trans e2
          have ca3 : ∀ x : Sub wr, x.w.cell? ⟨(a.add (k * 11)).block, (a.add (k * 11)).off + 3, none⟩ = some (.int .i64 s.hi) := fun x => (x.h.cell (p := ⟨(a.add (k * 11)).block, (a.add (k * 11)).off + 3, none⟩) za).trans e3
          have ca4 : ∀ x : Sub wr, x.w.cell? ⟨(a.add (k * 11)).block, (a.add (k * 11)).off + 4, none⟩ = some (.int .i64 s.mx) := fun x => (x.h.cell (p := ⟨(a.add (k * 11)).block, (a.add (k * 11)).off + 4, none⟩) za).trans e4
          have ca5 : ∀ x : Sub wr, x.w.cell? ⟨(a.add (k * 11)).block, (a.add (k * 11)).off + 5, none⟩ = some (.int .u8 s.ik) := fun x => (x.h.cell (p := ⟨(a.add (k * 11)).block, (a.add (k * 11)).off + 5, none⟩) za).trans e5
          have ca6 : ∀ x : Sub wr, x.w.cell? ⟨(a.add (k * 11)).block, (a.add (k * 11)).off + 6, none⟩ = some (.int .u64 s.ib) := fun x => (x.h.cell (p := ⟨(a.add (k * 11)).block, (a.add (k * 11)).off + 6, none⟩) za).trans e6
          have ca7 : ∀ x : Sub wr, x.w.cell? ⟨(a.add (k * 11)).block, (a.add (k * 11)).off + 7, none⟩ = some (.string s.is) := fun x => (x.h.cell (p := ⟨(a.add (k * 11)).block, (a.add (k * 11)).off + 7, none⟩) za).trans e7
          have ca8 : ∀ x : Sub wr, x.w.cell? ⟨(a.add (k * 11)).block, (a.add (k * 11)).off + 8, none⟩ = some (.bool s.kp) := fun x => (x.h.cell (p := ⟨(a.add (k * 11)).block, (a.add (k * 11)).off + 8, none⟩) za).trans e8
          have ca9 : ∀ x : Sub wr, x.w.cell? ⟨(a.add (k * 11)).block, (a.add (k * 11)).off + 9, none⟩ = some (.int .i64 s.dr) := fun x => (x.h.cell (p := ⟨(a.add (k * 11)).block, (a.add (k * 11)).off + 9, none⟩) za).trans e9
          have ca10 : ∀ x : Sub wr, x.w.cell? ⟨(a.add (k * 11)).block, (a.add (k * 11)).off + 10, none⟩ = some (.string s.ad) := fun x => (x.h.cell (p := ⟨(a.add (k * 11)).block, (a.add (k * 11)).off + 10, none⟩) za).trans e10
          have cb0 : ∀ x : Sub wr, x.w.cell? (b.add (k * 11)) = some (.int .u8 s.kd) := fun x => (x.h.cell zb).trans d0
          have cb1 : ∀ x : Sub wr, x.w.cell? ⟨(b.add (k * 11)).block, (b.add (k * 11)).off + 1, none⟩ = some (.bool s.sb) := fun x => (x.h.cell (p := ⟨(b.add (k * 11)).block, (b.add (k * 11)).off + 1, none⟩) zb).trans d1
          have cb2 : ∀ x : Sub wr, x.w.cell? ⟨(b.add (k * 11)).block, (b.add (k * 11)).off + 2, none⟩ = some (.int .i64 s.lo) := fun x => (x.h.cell (p := ⟨(b.add (k * 11)).block, (b.add (k * 11)).off + 2, none⟩) zb).trans d2
          have cb3 : ∀ x : Sub wr, x.w.cell? ⟨(b.add (k * 11)).block, (b.add (k * 11)).off + 3, none⟩ = some (.int .i64 s.hi) := fun x => (x.h.cell (p := ⟨(b.add (k * 11)).block, (b.add (k * 11)).off + 3, none⟩) zb).trans d3
          have cb4 : ∀ x : Sub wr, x.w.cell? ⟨(b.add (k * 11)).block, (b.add (k * 11)).off + 4, none⟩ = some (.int .i64 s.mx) := fun x => (x.h.cell (p := ⟨(b.add (k * 11)).block, (b.add (k * 11)).off + 4, none⟩) zb).trans d4
          have cb5 : ∀ x : Sub wr, x.w.cell? ⟨(b.add (k * 11)).block, (b.add (k * 11)).off + 5, none⟩ = some (.int .u8 s.ik) := fun x => (x.h.cell (p := ⟨(b.add (k * 11)).block, (b.add (k * 11)).off + 5, none⟩) zb).trans d5
          have cb6 : ∀ x : Sub wr, x.w.cell? ⟨(b.add (k * 11)).block, (b.add (k * 11)).off + 6, none⟩ = some (.int .u64 s.ib) := fun x => (x.h.cell (p := ⟨(b.add (k * 11)).block, (b.add (k * 11)).off + 6, none⟩) zb).trans d6
          have cb7 : ∀ x : Sub wr, x.w.cell? ⟨(b.add (k * 11)).block, (b.add (k * 11)).off + 7, none⟩ = some (.string s.is) := fun x => (x.h.cell (p := ⟨(b.add (k * 11)).block, (b.add (k * 11)).off + 7, none⟩) zb).trans d7
          have cb8 : ∀ x : Sub wr, x.w.cell? ⟨(b.add (k * 11)).block, (b.add (k * 11)).off + 8, none⟩ = some (.bool s.kp) := fun x => (x.h.cell (p := ⟨(b.add (k * 11)).block, (b.add (k * 11)).off + 8, none⟩) zb).trans d8
          have cb9 : ∀ x : Sub wr, x.w.cell? ⟨(b.add (k * 11)).block, (b.add (k * 11)).off + 9, none⟩ = some (.int .i64 s.dr) := fun x => (x.h.cell (p := ⟨(b.add (k * 11)).block, (b.add (k * 11)).off + 9, none⟩) zb).trans d9
          have cb10 : ∀ x : Sub wr, x.w.cell? ⟨(b.add (k * 11)).block, (b.add (k * 11)).off + 10, none⟩ = some (.string s.ad) := fun x => (x.h.cell (p := ⟨(b.add (k * 11)).block, (b.add (k * 11)).off + 10, none⟩) zb).trans d10
          refine wp_region_sub2 (by kernel_rfl) (by kernel_rfl) ?_
          intro cx
          repeat (first | go_big_quiet_skip | (go_big_quiet_want; go_big_quiet_op; first | go_big_quiet_on | (refine ⟨_, fun _ => rfl, ?_⟩; go_big_quiet_on)))
          refine wpQuiet_nil ?_
          rintro _ ⟨y, rfl⟩
          have Y : Hid (Below wr.heap.size wr y.w) := y.h
          clear cx ca0 cb0 ca1 cb1 ca2 cb2 ca3 cb3 ca4 cb4 ca5 cb5 ca6 cb6 ca7 cb7 ca8 cb8 ca9 cb9 ca10 cb10
          have ew : wrap64 ((k : Int) + 1) = (k : Int) + 1 := by have := HA.out.1; have := LT.out; unfold wrap64; omega
          go_wp2
          rw [ew]
          exact ⟨⟨k + 1, Nat.succ_le_of_lt LT.out, rfl, HW.out.trans (Y.out.mono HW.out.size), fun j hj => by rcases Nat.lt_succ_iff_lt_or_eq.1 hj with h | rfl; exact AL.out j h; exact ES.out.trans ET.out.symm⟩, msr LT.out⟩
        · have f2 := neC_f s t q
          have Q : Hid _ := q
          clear q
          go_wp2_with fail
          have ca0 : ∀ x : Sub wr, x.w.cell? (a.add (k * 11)) = some (.int .u8 s.kd) := fun x => (x.h.cell za).trans e0
          have ca1 : ∀ x : Sub wr, x.w.cell? ⟨(a.add (k * 11)).block, (a.add (k * 11)).off + 1, none⟩ = some (.bool s.sb) := fun x => (x.h.cell (p := ⟨(a.add (k * 11)).block, (a.add (k * 11)).off + 1, none⟩) za).trans e1
          have ca2 : ∀ x : Sub wr, x.w.cell? ⟨(a.add (k * 11)).block, (a.add (k * 11)).off + 2, none⟩ = some (.int .i64 s.lo) := fun x => (x.h.cell (p := ⟨(a.add (k * 11)).block, (a.add (k * 11)).off + 2, none⟩) za).trans e2
          have ca3 : ∀ x : Sub wr, x.w.cell? ⟨(a.add (k * 11)).block, (a.add (k * 11)).off + 3, none⟩ = some (.int .i64 s.hi) := fun x => (x.h.cell (p := ⟨(a.add (k * 11)).block, (a.add (k * 11)).off + 3, none⟩) za).trans e3
          have ca4 : ∀ x : Sub wr, x.w.cell? ⟨(a.add (k * 11)).block, (a.add (k * 11)).off + 4, none⟩ = some (.int .i64 s.mx) := fun x => (x.h.cell (p := ⟨(a.add (k * 11)).block, (a.add (k * 11)).off + 4, none⟩) za).trans e4
          have ca5 : ∀ x : Sub wr, x.w.cell? ⟨(a.add (k * 11)).block, (a.add (k * 11)).off + 5, none⟩ = some (.int .u8 s.ik) := fun x => (x.h.cell (p := ⟨(a.add (k * 11)).block, (a.add (k * 11)).off + 5, none⟩) za).trans e5
          have ca6 : ∀ x : Sub wr, x.w.cell? ⟨(a.add (k * 11)).block, (a.add (k * 11)).off + 6, none⟩ = some (.int .u64 s.ib) := fun x => (x.h.cell (p := ⟨(a.add (k * 11)).block, (a.add (k * 11)).off + 6, none⟩) za).trans e6
          have ca7 : ∀ x : Sub wr, x.w.cell? ⟨(a.add (k * 11)).block, (a.add (k * 11)).off + 7, none⟩ = some (.string s.is) := fun x => (x.h.cell (p := ⟨(a.add (k * 11)).block, (a.add (k * 11)).off + 7, none⟩) za).trans e7
          have ca8 : ∀ x : Sub wr, x.w.cell? ⟨(a.add (k * 11)).block, (a.add (k * 11)).off + 8, none⟩ = some (.bool s.kp) := fun x => (x.h.cell (p := ⟨(a.add (k * 11)).block, (a.add (k * 11)).off + 8, none⟩) za).trans e8
          have ca9 : ∀ x : Sub wr, x.w.cell? ⟨(a.add (k * 11)).block, (a.add (k * 11)).off + 9, none⟩ = some (.int .i64 s.dr) := fun x => (x.h.cell (p := ⟨(a.add (k * 11)).block, (a.add (k * 11)).off + 9, none⟩) za).trans e9
          have ca10 : ∀ x : Sub wr, x.w.cell? ⟨(a.add (k * 11)).block, (a.add (k * 11)).off + 10, none⟩ = some (.string s.ad) := fun x => (x.h.cell (p := ⟨(a.add (k * 11)).block, (a.add (k * 11)).off + 10, none⟩) za).trans e10
          have cb0 : ∀ x : Sub wr, x.w.cell? (b.add (k * 11)) = some (.int .u8 t.kd) := fun x => (x.h.cell zb).trans d0
          have cb1 : ∀ x : Sub wr, x.w.cell? ⟨(b.add (k * 11)).block, (b.add (k * 11)).off + 1, none⟩ = some (.bool t.sb) := fun x => (x.h.cell (p := ⟨(b.add (k * 11)).block, (b.add (k * 11)).off + 1, none⟩) zb).trans d1
          have cb2 : ∀ x : Sub wr, x.w.cell? ⟨(b.add (k * 11)).block, (b.add (k * 11)).off + 2, none⟩ = some (.int .i64 t.lo) := fun x => (x.h.cell (p := ⟨(b.add (k * 11)).block, (b.add (k * 11)).off + 2, none⟩) zb).trans d2
          have cb3 : ∀ x : Sub wr, x.w.cell? ⟨(b.add (k * 11)).block, (b.add (k * 11)).off + 3, none⟩ = some (.int .i64 t.hi) := fun x => (x.h.cell (p := ⟨(b.add (k * 11)).block, (b.add (k * 11)).off + 3, none⟩) zb).trans d3
          have cb4 : ∀ x : Sub wr, x.w.cell? ⟨(b.add (k * 11)).block, (b.add (k * 11)).off + 4, none⟩ = some (.int .i64 t.mx) := fun x => (x.h.cell (p := ⟨(b.add (k * 11)).block, (b.add (k * 11)).off + 4, none⟩) zb).trans d4
          have cb5 : ∀ x : Sub wr, x.w.cell? ⟨(b.add (k * 11)).block, (b.add (k * 11)).off + 5, none⟩ = some (.int .u8 t.ik) := fun x => (x.h.cell (p := ⟨(b.add (k * 11)).block, (b.add (k * 11)).off + 5, none⟩) zb).trans d5
          have cb6 : ∀ x : Sub wr, x.w.cell? ⟨(b.add (k * 11)).block, (b.add (k * 11)).off + 6, none⟩ = some (.int .u64 t.ib) := fun x => (x.h.cell (p := ⟨(b.add (k * 11)).block, (b.add (k * 11)).off + 6, none⟩) zb).trans d6
          have cb7 : ∀ x : Sub wr, x.w.cell? ⟨(b.add (k * 11)).block, (b.add (k * 11)).off + 7, none⟩ = some (.string t.is) := fun x => (x.h.cell (p := ⟨(b.add (k * 11)).block, (b.add (k * 11)).off + 7, none⟩) zb).trans d7
          have cb8 : ∀ x : Sub wr, x.w.cell? ⟨(b.add (k * 11)).block, (b.add (k * 11)).off + 8, none⟩ = some (.bool t.kp) := fun x => (x.h.cell (p := ⟨(b.add (k * 11)).block, (b.add (k * 11)).off + 8, none⟩) zb).trans d8
          have cb9 : ∀ x : Sub wr, x.w.cell? ⟨(b.add (k * 11)).block, (b.add (k * 11)).off + 9, none⟩ = some (.int .i64 t.dr) := fun x => (x.h.cell (p := ⟨(b.add (k * 11)).block, (b.add (k * 11)).off + 9, none⟩) zb).trans d9
          have cb10 : ∀ x : Sub wr, x.w.cell? ⟨(b.add (k * 11)).block, (b.add (k * 11)).off + 10, none⟩ = some (.string t.ad) := fun x => (x.h.cell (p := ⟨(b.add (k * 11)).block, (b.add (k * 11)).off + 10, none⟩) zb).trans d10
          refine wp_region_sub2 (by kernel_rfl) (by kernel_rfl) ?_
          intro cx
          repeat (first | go_big_quiet_skip | (go_big_quiet_want; go_big_quiet_op; first | go_big_quiet_on | (refine ⟨_, fun _ => rfl, ?_⟩; go_big_quiet_on)))
          refine wpQuiet_nil ?_
          rintro _ ⟨y, rfl⟩
          have Y : Hid (Below w.heap.size w y.w) := HW.out.trans (y.h.mono HW.out.size)
          clear cx ca0 cb0 ca1 cb1 ca2 cb2 ca3 cb3 ca4 cb4 ca5 cb5 ca6 cb6 ca7 cb7 ca8 cb8 ca9 cb9 ca10 cb10
          have ed : decide (l = l') = false := decide_eq_false fun e => Q.out (by have a := ES.out; rw [e, ET.out] at a; exact (Option.some.inj a).symm)
          go_wp2
          go_ret
          exact ⟨by first | rfl | (rw [ed]; rfl) | rw [ed], Y.out⟩
      · have kl : ¬ (k : Int) < l.length := by omega
        have ed : decide (l = l') = true := decide_eq_true (List.ext_getElem? fun j => by
          by_cases hj : j < k
          · exact AL.out j hj
          · have := HN.out
            rw [List.getElem?_eq_none (by omega), List.getElem?_eq_none (by omega)])
        clear hbw hlt
        go_wp2
        go_ret
        exact ⟨by first | rfl | (rw [ed]; rfl) | rw [ed], HW.out⟩
  · have el' : ((l.length : Int) == (l'.length : Int)) = false := by rw [beq_eq_false_iff_ne]; omega
    have el2 : ((l.length : Int) != (l'.length : Int)) = true := by simp [bne, el']
    have ed : decide (l = l') = false := decide_eq_false fun e => el (by rw [e])
    clear el
    go_enter Tryz.func15, Tryz.ntmps15
    go_wp2
    go_ret
    exact ⟨by first | rfl | (rw [ed]; rfl) | rw [ed], Below.refl _ _⟩
theorem neO_t (s : OpR) (w : World) : (binOp .neq 46 (.agg #[.int .i64 s.cd, .int .i64 s.a, .int .i64 s.b, .int .i64 s.c, .int .i64 s.d, .int .i64 s.lo, .int .i64 s.hi, .int .u8 s.vk, .int .u64 s.vb, .string s.vs]) (.agg #[.int .i64 s.cd, .int .i64 s.a, .int .i64 s.b, .int .i64 s.c, .int .i64 s.d, .int .i64 s.lo, .int .i64 s.hi, .int .u8 s.vk, .int .u64 s.vb, .string s.vs])).run Tryz.prog w = .ok (.bool false) w := by simp [go_sem]
theorem neO_f (s t : OpR) (h : ¬ s = t) (w : World) : (binOp .neq 46 (.agg #[.int .i64 s.cd, .int .i64 s.a, .int .i64 s.b, .int .i64 s.c, .int .i64 s.d, .int .i64 s.lo, .int .i64 s.hi, .int .u8 s.vk, .int .u64 s.vb, .string s.vs]) (.agg #[.int .i64 t.cd, .int .i64 t.a, .int .i64 t.b, .int .i64 t.c, .int .i64 t.d, .int .i64 t.lo, .int .i64 t.hi, .int .u8 t.vk, .int .u64 t.vb, .string t.vs])).run Tryz.prog w = .ok (.bool true) w := by
  cases s with | mk s0 s1 s2 s3 s4 s5 s6 s7 s8 s9 =>
  cases t with | mk t0 t1 t2 t3 t4 t5 t6 t7 t8 t9 =>
  by_cases e0 : s0 = t0
  case neg => simp [go_sem, e0]
  subst e0
  by_cases e1 : s1 = t1
  case neg => simp [go_sem, e1]
  subst e1
  by_cases e2 : s2 = t2
  case neg => simp [go_sem, e2]
  subst e2
  by_cases e3 : s3 = t3
  case neg => simp [go_sem, e3]
  subst e3
  by_cases e4 : s4 = t4
  case neg => simp [go_sem, e4]
  subst e4
  by_cases e5 : s5 = t5
  case neg => simp [go_sem, e5]
  subst e5
  by_cases e6 : s6 = t6
  case neg => simp [go_sem, e6]
  subst e6
  by_cases e7 : s7 = t7
  case neg => simp [go_sem, e7]
  subst e7
  by_cases e8 : s8 = t8
  case neg => simp [go_sem, e8]
  subst e8
  by_cases e9 : s9.toList = t9.toList
  case neg => simp [go_sem, e9]
  obtain rfl := ba_ext e9
  exact absurd rfl h
set_option maxHeartbeats 4000000 in
theorem EqualO (x y : Option Addr) (l l' : List OpR) (c d : Nat) (w : World) {S : Nat → Prop} (hS : ∀ b, S b → b < w.heap.size) (ha : RwF 10 (Is opC) S w x l) (hb : RwF 10 (Is opC) S w y l') :
    Calls Tryz.prog 75 #[.slice x l.length c, .slice y l'.length d] w fun e w' => e = .returned (.bool (decide (l = l'))) ∧ Below w.heap.size w w' := by
  have HA : Hid (RwF 10 (Is opC) S w x l) := ha
  have HB : Hid (RwF 10 (Is opC) S w y l') := hb
  have HS : Hid _ := hS
  clear ha hb hS
  by_cases el : l.length = l'.length
  · generalize hn : l'.length = n at *
    have HN : Hid _ := hn
    clear hn
    subst el
    go_enter Tryz.func75, Tryz.ntmps75
    go_wp2_with fail
    go_loopw [13] (fun i wr => ∃ k : Nat, k ≤ l.length ∧ i = .int .i64 k ∧ Below w.heap.size w wr ∧ ∀ j, j < k → l[j]? = l'[j]?) (fun i _ => l.length - (intOf i).toNat)
    case atStart => exact ⟨0, Nat.zero_le _, rfl, Below.refl _ _, fun j hj => absurd hj (Nat.not_lt_zero _)⟩
    case round =>
      obtain ⟨k, hk, rfl, hbw, hall⟩ := hrel
      have HW : Hid (Below w.heap.size w wr) := hbw
      have AL : Hid _ := hall
      clear hall
      by_cases hlt : k < l.length
      · obtain ⟨a, rfl⟩ := HA.out.some (by omega)
        obtain ⟨b, rfl⟩ := HB.out.some (by have := HN.out; omega)
        obtain ⟨s, sv, se, _, rfl, sc⟩ := (HA.out.fr (fun q hq => hbw.cell (HS.out _ hq))).el k hlt
        have e0 := sc.c0
        have e1 := sc.cp 0 _ rfl
        have e2 := sc.cp 1 _ rfl
        have e3 := sc.cp 2 _ rfl
        have e4 := sc.cp 3 _ rfl
        have e5 := sc.cp 4 _ rfl
        have e6 := sc.cp 5 _ rfl
        have e7 := sc.cp 6 _ rfl
        have e8 := sc.cp 7 _ rfl
        have e9 := sc.cp 8 _ rfl
        obtain ⟨t, tv, te, _, rfl, tc⟩ := (HB.out.fr (fun q hq => hbw.cell (HS.out _ hq))).el k (by have := HN.out; omega)
        have d0 := tc.c0
        have d1 := tc.cp 0 _ rfl
        have d2 := tc.cp 1 _ rfl
        have d3 := tc.cp 2 _ rfl
        have d4 := tc.cp 3 _ rfl
        have d5 := tc.cp 4 _ rfl
        have d6 := tc.cp 5 _ rfl
        have d7 := tc.cp 6 _ rfl
        have d8 := tc.cp 7 _ rfl
        have d9 := tc.cp 8 _ rfl
        have ES : Hid (l[k]? = some s) := se
        have ET : Hid (l'[k]? = some t) := te
        have LT : Hid _ := hlt
        have kl : (k : Int) < l.length := by omega
        clear hbw se te hlt sc tc
        have za := block_lt_of_cell e0
        have zb := block_lt_of_cell d0
        by_cases q : s = t
        · subst q
          have f1 := neO_t s
          go_wp2_with fail
          have ca0 : ∀ x : Sub wr, x.w.cell? (a.add (k * 10)) = some (.int .i64 s.cd) := fun x => (x.h.cell za).trans e0
          have ca1 : ∀ x : Sub wr, x.w.cell? ⟨(a.add (k * 10)).block, (a.add (k * 10)).off + 1, none⟩ = some (.int .i64 s.a) := fun x => (x.h.cell (p := ⟨(a.add (k * 10)).block, (a.add (k * 10)).off + 1, none⟩) za).trans e1
          have ca2 : ∀ x : Sub wr, x.w.cell? ⟨(a.add (k * 10)).block, (a.add (k * 10)).off + 2, none⟩ = some (.int .i64 s.b) := fun x => (x.h.cell (p := ⟨(a.add (k * 10)).block, (a.add (k * 10)).off + 2, none⟩) za).trans e2
          have ca3 : ∀ x : Sub wr, x.w.cell? ⟨(a.add (k * 10)).block, (a.add (k * 10)).off + 3, none⟩ = some (.int .i64 s.c) := fun x => (x.h.cell (p := ⟨(a.add (k * 10)).block, (a.add (k * 10)).off + 3, none⟩) za).trans e3
          have ca4 : ∀ x : Sub wr, x.w.cell? ⟨(a.add (k * 10)).block, (a.add (k * 10)).off + 4, none⟩ = some (.int .i64 s.d) := fun x => (x.h.cell (p := ⟨(a.add (k * 10)).block, (a.add (k * 10)).off + 4, none⟩) za).trans e4
          have ca5 : ∀ x : Sub wr, x.w.cell? ⟨(a.add (k * 10)).block, (a.add (k * 10)).off + 5, none⟩ = some (.int .i64 s.lo) := fun x => (x.h.cell (p := ⟨(a.add (k * 10)).block, (a.add (k * 10)).off + 5, none⟩) za).trans e5
          have ca6 : ∀ x : Sub wr, x.w.cell? ⟨(a.add (k * 10)).block, (a.add (k * 10)).off + 6, none⟩ = some (.int .i64 s.hi) := fun x => (x.h.cell (p := ⟨(a.add (k * 10)).block, (a.add (k * 10)).off + 6, none⟩) za).trans e6
          have ca7 : ∀ x : Sub wr, x.w.cell? ⟨(a.add (k * 10)).block, (a.add (k * 10)).off + 7, none⟩ = some (.int .u8 s.vk) := fun x => (x.h.cell (p := ⟨(a.add (k * 10)).block, (a.add (k * 10)).off + 7, none⟩) za).trans e7
          have ca8 : ∀ x : Sub wr, x.w.cell? ⟨(a.add (k * 10)).block, (a.add (k * 10)).off + 8, none⟩ = some (.int .u64 s.vb) := fun x => (x.h.cell (p := ⟨(a.add (k * 10)).block, (a.add (k * 10)).off + 8, none⟩) za).trans e8
          have ca9 : ∀ x : Sub wr, x.w.cell? ⟨(a.add (k * 10)).block, (a.add (k * 10)).off + 9, none⟩ = some (.string s.vs) := fun x => (x.h.cell (p := ⟨(a.add (k * 10)).block, (a.add (k * 10)).off + 9, none⟩) za).trans e9
          have cb0 : ∀ x : Sub wr, x.w.cell? (b.add (k * 10)) = some (.int .i64 s.cd) := fun x => (x.h.cell zb).trans d0
          have cb1 : ∀ x : Sub wr, x.w.cell? ⟨(b.add (k * 10)).block, (b.add (k * 10)).off + 1, none⟩ = some (.int .i64 s.a) := fun x => (x.h.cell (p := ⟨(b.add (k * 10)).block, (b.add (k * 10)).off + 1, none⟩) zb).trans d1
          have cb2 : ∀ x : Sub wr, x.w.cell? ⟨(b.add (k * 10)).block, (b.add (k * 10)).off + 2, none⟩ = some (.int .i64 s.b) := fun x => (x.h.cell (p := ⟨(b.add (k * 10)).block, (b.add (k * 10)).off + 2, none⟩) zb).trans d2
          have cb3 : ∀ x : Sub wr, x.w.cell? ⟨(b.add (k * 10)).block, (b.add (k * 10)).off + 3, none⟩ = some (.int .i64 s.c) := fun x => (x.h.cell (p := ⟨(b.add (k * 10)).block, (b.add (k * 10)).off + 3, none⟩) zb).trans d3
          have cb4 : ∀ x : Sub wr, x.w.cell? ⟨(b.add (k * 10)).block, (b.add (k * 10)).off + 4, none⟩ = some (.int .i64 s.d) := fun x => (x.h.cell (p := ⟨(b.add (k * 10)).block, (b.add (k * 10)).off + 4, none⟩) zb).trans d4
          have cb5 : ∀ x : Sub wr, x.w.cell? ⟨(b.add (k * 10)).block, (b.add (k * 10)).off + 5, none⟩ = some (.int .i64 s.lo) := fun x => (x.h.cell (p := ⟨(b.add (k * 10)).block, (b.add (k * 10)).off + 5, none⟩) zb).trans d5
          have cb6 : ∀ x : Sub wr, x.w.cell? ⟨(b.add (k * 10)).block, (b.add (k * 10)).off + 6, none⟩ = some (.int .i64 s.hi) := fun x => (x.h.cell (p := ⟨(b.add (k * 10)).block, (b.add (k * 10)).off + 6, none⟩) zb).trans d6
          have cb7 : ∀ x : Sub wr, x.w.cell? ⟨(b.add (k * 10)).block, (b.add (k * 10)).off + 7, none⟩ = some (.int .u8 s.vk) := fun x => (x.h.cell (p := ⟨(b.add (k * 10)).block, (b.add (k * 10)).off + 7, none⟩) zb).trans d7
          have cb8 : ∀ x : Sub wr, x.w.cell? ⟨(b.add (k * 10)).block, (b.add (k * 10)).off + 8, none⟩ = some (.int .u64 s.vb) := fun x => (x.h.cell (p := ⟨(b.add (k * 10)).block, (b.add (k * 10)).off + 8, none⟩) zb).trans d8
          have cb9 : ∀ x : Sub wr, x.w.cell? ⟨(b.add (k * 10)).block, (b.add (k * 10)).off + 9, none⟩ = some (.string s.vs) := fun x => (x.h.cell (p := ⟨(b.add (k * 10)).block, (b.add (k * 10)).off + 9, none⟩) zb).trans d9
          refine wp_region_sub2 (by kernel_rfl) (by kernel_rfl) ?_
          intro cx
          repeat (first | go_big_quiet_skip | (go_big_quiet_want; go_big_quiet_op; first | go_big_quiet_on | (refine ⟨_, fun _ => rfl, ?_⟩; go_big_quiet_on)))
          refine wpQuiet_nil ?_
          rintro _ ⟨y, rfl⟩
          have Y : Hid (Below wr.heap.size wr y.w) := y.h
          clear cx ca0 cb0 ca1 cb1 ca2 cb2 ca3 cb3 ca4 cb4 ca5 cb5 ca6 cb6 ca7 cb7 ca8 cb8 ca9 cb9
          have ew : wrap64 ((k : Int) + 1) = (k : Int) + 1 := by have := HA.out.1; have := LT.out; unfold wrap64; omega
          go_wp2
          rw [ew]
          exact ⟨⟨k + 1, Nat.succ_le_of_lt LT.out, rfl, HW.out.trans (Y.out.mono HW.out.size), fun j hj => by rcases Nat.lt_succ_iff_lt_or_eq.1 hj with h | rfl; exact AL.out j h; exact ES.out.trans ET.out.symm⟩, msr LT.out⟩
        · have f2 := neO_f s t q
          have Q : Hid _ := q
          clear q
          go_wp2_with fail
          have ca0 : ∀ x : Sub wr, x.w.cell? (a.add (k * 10)) = some (.int .i64 s.cd) := fun x => (x.h.cell za).trans e0
          have ca1 : ∀ x : Sub wr, x.w.cell? ⟨(a.add (k * 10)).block, (a.add (k * 10)).off + 1, none⟩ = some (.int .i64 s.a) := fun x => (x.h.cell (p := ⟨(a.add (k * 10)).block, (a.add (k * 10)).off + 1, none⟩) za).trans e1
          have ca2 : ∀ x : Sub wr, x.w.cell? ⟨(a.add (k * 10)).block, (a.add (k * 10)).off + 2, none⟩ = some (.int .i64 s.b) := fun x => (x.h.cell (p := ⟨(a.add (k * 10)).block, (a.add (k * 10)).off + 2, none⟩) za).trans e2
          have ca3 : ∀ x : Sub wr, x.w.cell? ⟨(a.add (k * 10)).block, (a.add (k * 10)).off + 3, none⟩ = some (.int .i64 s.c) := fun x => (x.h.cell (p := ⟨(a.add (k * 10)).block, (a.add (k * 10)).off + 3, none⟩) za).trans e3
          have ca4 : ∀ x : Sub wr, x.w.cell? ⟨(a.add (k * 10)).block, (a.add (k * 10)).off + 4, none⟩ = some (.int .i64 s.d) := fun x => (x.h.cell (p := ⟨(a.add (k * 10)).block, (a.add (k * 10)).off + 4, none⟩) za).trans e4
          have ca5 : ∀ x : Sub wr, x.w.cell? ⟨(a.add (k * 10)).block, (a.add (k * 10)).off + 5, none⟩ = some (.int .i64 s.lo) := fun x => (x.h.cell (p := ⟨(a.add (k * 10)).block, (a.add (k * 10)).off + 5, none⟩) za).trans e5
          have ca6 : ∀ x : Sub wr, x.w.cell? ⟨(a.add (k * 10)).block, (a.add (k * 10)).off + 6, none⟩ = some (.int .i64 s.hi) := fun x => (x.h.cell (p := ⟨(a.add (k * 10)).block, (a.add (k * 10)).off + 6, none⟩) za).trans e6
          have ca7 : ∀ x : Sub wr, x.w.cell? ⟨(a.add (k * 10)).block, (a.add (k * 10)).off + 7, none⟩ = some (.int .u8 s.vk) := fun x => (x.h.cell (p := ⟨(a.add (k * 10)).block, (a.add (k * 10)).off + 7, none⟩) za).trans e7
          have ca8 : ∀ x : Sub wr, x.w.cell? ⟨(a.add (k * 10)).block, (a.add (k * 10)).off + 8, none⟩ = some (.int .u64 s.vb) := fun x => (x.h.cell (p := ⟨(a.add (k * 10)).block, (a.add (k * 10)).off + 8, none⟩) za).trans e8
          have ca9 : ∀ x : Sub wr, x.w.cell? ⟨(a.add (k * 10)).block, (a.add (k * 10)).off + 9, none⟩ = some (.string s.vs) := fun x => (x.h.cell (p := ⟨(a.add (k * 10)).block, (a.add (k * 10)).off + 9, none⟩) za).trans e9
          have cb0 : ∀ x : Sub wr, x.w.cell? (b.add (k * 10)) = some (.int .i64 t.cd) := fun x => (x.h.cell zb).trans d0
          have cb1 : ∀ x : Sub wr, x.w.cell? ⟨(b.add (k * 10)).block, (b.add (k * 10)).off + 1, none⟩ = some (.int .i64 t.a) := fun x => (x.h.cell (p := ⟨(b.add (k * 10)).block, (b.add (k * 10)).off + 1, none⟩) zb).trans d1
          have cb2 : ∀ x : Sub wr, x.w.cell? ⟨(b.add (k * 10)).block, (b.add (k * 10)).off + 2, none⟩ = some (.int .i64 t.b) := fun x => (x.h.cell (p := ⟨(b.add (k * 10)).block, (b.add (k * 10)).off + 2, none⟩) zb).trans d2
          have cb3 : ∀ x : Sub wr, x.w.cell? ⟨(b.add (k * 10)).block, (b.add (k * 10)).off + 3, none⟩ = some (.int .i64 t.c) := fun x => (x.h.cell (p := ⟨(b.add (k * 10)).block, (b.add (k * 10)).off + 3, none⟩) zb).trans d3
          have cb4 : ∀ x : Sub wr, x.w.cell? ⟨(b.add (k * 10)).block, (b.add (k * 10)).off + 4, none⟩ = some (.int .i64 t.d) := fun x => (x.h.cell (p := ⟨(b.add (k * 10)).block, (b.add (k * 10)).off + 4, none⟩) zb).trans d4
          have cb5 : ∀ x : Sub wr, x.w.cell? ⟨(b.add (k * 10)).block, (b.add (k * 10)).off + 5, none⟩ = some (.int .i64 t.lo) := fun x => (x.h.cell (p := ⟨(b.add (k * 10)).block, (b.add (k * 10)).off + 5, none⟩) zb).trans d5
          have cb6 : ∀ x : Sub wr, x.w.cell? ⟨(b.add (k * 10)).block, (b.add (k * 10)).off + 6, none⟩ = some (.int .i64 t.hi) := fun x => (x.h.cell (p := ⟨(b.add (k * 10)).block, (b.add (k * 10)).off + 6, none⟩) zb).trans d6
          have cb7 : ∀ x : Sub wr, x.w.cell? ⟨(b.add (k * 10)).block, (b.add (k * 10)).off + 7, none⟩ = some (.int .u8 t.vk) := fun x => (x.h.cell (p := ⟨(b.add (k * 10)).block, (b.add (k * 10)).off + 7, none⟩) zb).trans d7
          have cb8 : ∀ x : Sub wr, x.w.cell? ⟨(b.add (k * 10)).block, (b.add (k * 10)).off + 8, none⟩ = some (.int .u64 t.vb) := fun x => (x.h.cell (p := ⟨(b.add (k * 10)).block, (b.add (k * 10)).off + 8, none⟩) zb).trans d8
          have cb9 : ∀ x : Sub wr, x.w.cell? ⟨(b.add (k * 10)).block, (b.add (k * 10)).off + 9, none⟩ = some (.string t.vs) := fun x => (x.h.cell (p := ⟨(b.add (k * 10)).block, (b.add (k * 10)).off + 9, none⟩) zb).trans d9
          refine wp_region_sub2 (by kernel_rfl) (by kernel_rfl) ?_
          intro cx
          repeat (first | go_big_quiet_skip | (go_big_quiet_want; go_big_quiet_op; first | go_big_quiet_on | (refine ⟨_, fun _ => rfl, ?_⟩; go_big_quiet_on)))
          refine wpQuiet_nil ?_
          rintro _ ⟨y, rfl⟩
          have Y : Hid (Below w.heap.size w y.w) := HW.out.trans (y.h.mono HW.out.size)
          clear cx ca0 cb0 ca1 cb1 ca2 cb2 ca3 cb3 ca4 cb4 ca5 cb5 ca6 cb6 ca7 cb7 ca8 cb8 ca9 cb9
          have ed : decide (l = l') = false := decide_eq_false fun e => Q.out (by have a := ES.out; rw [e, ET.out] at a; exact (Option.some.inj a).symm)
          go_wp2
          go_ret
          exact ⟨by first | rfl | (rw [ed]; rfl) | rw [ed], Y.out⟩
      · have kl : ¬ (k : Int) < l.length := by omega
        have ed : decide (l = l') = true := decide_eq_true (List.ext_getElem? fun j => by
          by_cases hj : j < k
          · exact AL.out j hj
          · have := HN.out
            rw [List.getElem?_eq_none (by omega), List.getElem?_eq_none (by omega)])
        clear hbw hlt
        go_wp2
        go_ret
        exact ⟨by first | rfl | (rw [ed]; rfl) | rw [ed], HW.out⟩
  · have el' : ((l.length : Int) == (l'.length : Int)) = false := by rw [beq_eq_false_iff_ne]; omega
    have el2 : ((l.length : Int) != (l'.length : Int)) = true := by simp [bne, el']
    have ed : decide (l = l') = false := decide_eq_false fun e => el (by rw [e])
    clear el
    go_enter Tryz.func75, Tryz.ntmps75
    go_wp2
    go_ret
    exact ⟨by first | rfl | (rw [ed]; rfl) | rw [ed], Below.refl _ _⟩
theorem neL_t (s : LpR) (w : World) : (binOp .neq 48 (.agg #[.int .i64 s.hd, .int .i64 s.en, .int .i64 s.tm]) (.agg #[.int .i64 s.hd, .int .i64 s.en, .int .i64 s.tm])).run Tryz.prog w = .ok (.bool false) w := by simp [go_sem]
theorem neL_f (s t : LpR) (h : ¬ s = t) (w : World) : (binOp .neq 48 (.agg #[.int .i64 s.hd, .int .i64 s.en, .int .i64 s.tm]) (.agg #[.int .i64 t.hd, .int .i64 t.en, .int .i64 t.tm])).run Tryz.prog w = .ok (.bool true) w := by
  cases s with | mk s0 s1 s2 =>
  cases t with | mk t0 t1 t2 =>
  by_cases e0 : s0 = t0
  case neg => simp [go_sem, e0]
  subst e0
  by_cases e1 : s1 = t1
  case neg => simp [go_sem, e1]
  subst e1
  by_cases e2 : s2 = t2
  case neg => simp [go_sem, e2]
  subst e2
  exact absurd rfl h
set_option maxHeartbeats 4000000 in
theorem EqualL (x y : Option Addr) (l l' : List LpR) (c d : Nat) (w : World) {S : Nat → Prop} (hS : ∀ b, S b → b < w.heap.size) (ha : RwF 3 (Is lpC) S w x l) (hb : RwF 3 (Is lpC) S w y l') :
    Calls Tryz.prog 76 #[.slice x l.length c, .slice y l'.length d] w fun e w' => e = .returned (.bool (decide (l = l'))) ∧ Below w.heap.size w w' := by
  have HA : Hid (RwF 3 (Is lpC) S w x l) := ha
  have HB : Hid (RwF 3 (Is lpC) S w y l') := hb
  have HS : Hid _ := hS
  clear ha hb hS
  by_cases el : l.length = l'.length
  · generalize hn : l'.length = n at *
    have HN : Hid _ := hn
    clear hn
    subst el
    go_enter Tryz.func76, Tryz.ntmps76
    go_wp2_with fail
    go_loopw [13] (fun i wr => ∃ k : Nat, k ≤ l.length ∧ i = .int .i64 k ∧ Below w.heap.size w wr ∧ ∀ j, j < k → l[j]? = l'[j]?) (fun i _ => l.length - (intOf i).toNat)
    case atStart => exact ⟨0, Nat.zero_le _, rfl, Below.refl _ _, fun j hj => absurd hj (Nat.not_lt_zero _)⟩
    case round =>
      obtain ⟨k, hk, rfl, hbw, hall⟩ := hrel
      have HW : Hid (Below w.heap.size w wr) := hbw
      have AL : Hid _ := hall
      clear hall
      by_cases hlt : k < l.length
      · obtain ⟨a, rfl⟩ := HA.out.some (by omega)
        obtain ⟨b, rfl⟩ := HB.out.some (by have := HN.out; omega)
        obtain ⟨s, sv, se, _, rfl, sc⟩ := (HA.out.fr (fun q hq => hbw.cell (HS.out _ hq))).el k hlt
        have e0 := sc.c0
        have e1 := sc.cp 0 _ rfl
        have e2 := sc.cp 1 _ rfl
        obtain ⟨t, tv, te, _, rfl, tc⟩ := (HB.out.fr (fun q hq => hbw.cell (HS.out _ hq))).el k (by have := HN.out; omega)
        have d0 := tc.c0
        have d1 := tc.cp 0 _ rfl
        have d2 := tc.cp 1 _ rfl
        have ES : Hid (l[k]? = some s) := se
        have ET : Hid (l'[k]? = some t) := te
        have LT : Hid _ := hlt
        have kl : (k : Int) < l.length := by omega
        clear hbw se te hlt sc tc
        have za := block_lt_of_cell e0
        have zb := block_lt_of_cell d0
        by_cases q : s = t
        · subst q
          have f1 := neL_t s
          go_wp2_with fail
          have ca0 : ∀ x : Sub wr, x.w.cell? (a.add (k * 3)) = some (.int .i64 s.hd) := fun x => (x.h.cell za).trans e0
          have ca1 : ∀ x : Sub wr, x.w.cell? ⟨(a.add (k * 3)).block, (a.add (k * 3)).off + 1, none⟩ = some (.int .i64 s.en) := fun x => (x.h.cell (p := ⟨(a.add (k * 3)).block, (a.add (k * 3)).off + 1, none⟩) za).trans e1
          have ca2 : ∀ x : Sub wr, x.w.cell? ⟨(a.add (k * 3)).block, (a.add (k * 3)).off + 2, none⟩ = some (.int .i64 s.tm) := fun x => (x.h.cell (p := ⟨(a.add (k * 3)).block, (a.add (k * 3)).off + 2, none⟩) za).trans e2
          have cb0 : ∀ x : Sub wr, x.w.cell? (b.add (k * 3)) = some (.int .i64 s.hd) := fun x => (x.h.cell zb).trans d0
          have cb1 : ∀ x : Sub wr, x.w.cell? ⟨(b.add (k * 3)).block, (b.add (k * 3)).off + 1, none⟩ = some (.int .i64 s.en) := fun x => (x.h.cell (p := ⟨(b.add (k * 3)).block, (b.add (k * 3)).off + 1, none⟩) zb).trans d1
          have cb2 : ∀ x : Sub wr, x.w.cell? ⟨(b.add (k * 3)).block, (b.add (k * 3)).off + 2, none⟩ = some (.int .i64 s.tm) := fun x => (x.h.cell (p := ⟨(b.add (k * 3)).block, (b.add (k * 3)).off + 2, none⟩) zb).trans d2
          refine wp_region_sub2 (by kernel_rfl) (by kernel_rfl) ?_
          intro cx
          repeat (first | go_big_quiet_skip | (go_big_quiet_want; go_big_quiet_op; first | go_big_quiet_on | (refine ⟨_, fun _ => rfl, ?_⟩; go_big_quiet_on)))
          refine wpQuiet_nil ?_
          rintro _ ⟨y, rfl⟩
          have Y : Hid (Below wr.heap.size wr y.w) := y.h
          clear cx ca0 cb0 ca1 cb1 ca2 cb2
          have ew : wrap64 ((k : Int) + 1) = (k : Int) + 1 := by have := HA.out.1; have := LT.out; unfold wrap64; omega
          go_wp2
          rw [ew]
          exact ⟨⟨k + 1, Nat.succ_le_of_lt LT.out, rfl, HW.out.trans (Y.out.mono HW.out.size), fun j hj => by rcases Nat.lt_succ_iff_lt_or_eq.1 hj with h | rfl; exact AL.out j h; exact ES.out.trans ET.out.symm⟩, msr LT.out⟩
        · have f2 := neL_f s t q
          have Q : Hid _ := q
          clear q
          go_wp2_with fail
          have ca0 : ∀ x : Sub wr, x.w.cell? (a.add (k * 3)) = some (.int .i64 s.hd) := fun x => (x.h.cell za).trans e0
          have ca1 : ∀ x : Sub wr, x.w.cell? ⟨(a.add (k * 3)).block, (a.add (k * 3)).off + 1, none⟩ = some (.int .i64 s.en) := fun x => (x.h.cell (p := ⟨(a.add (k * 3)).block, (a.add (k * 3)).off + 1, none⟩) za).trans e1
          have ca2 : ∀ x : Sub wr, x.w.cell? ⟨(a.add (k * 3)).block, (a.add (k * 3)).off + 2, none⟩ = some (.int .i64 s.tm) := fun x => (x.h.cell (p := ⟨(a.add (k * 3)).block, (a.add (k * 3)).off + 2, none⟩) za).trans e2
          have cb0 : ∀ x : Sub wr, x.w.cell? (b.add (k * 3)) = some (.int .i64 t.hd) := fun x => (x.h.cell zb).trans d0
          have cb1 : ∀ x : Sub wr, x.w.cell? ⟨(b.add (k * 3)).block, (b.add (k * 3)).off + 1, none⟩ = some (.int .i64 t.en) := fun x => (x.h.cell (p := ⟨(b.add (k * 3)).block, (b.add (k * 3)).off + 1, none⟩) zb).trans d1
          have cb2 : ∀ x : Sub wr, x.w.cell? ⟨(b.add (k * 3)).block, (b.add (k * 3)).off + 2, none⟩ = some (.int .i64 t.tm) := fun x => (x.h.cell (p := ⟨(b.add (k * 3)).block, (b.add (k * 3)).off + 2, none⟩) zb).trans d2
          refine wp_region_sub2 (by kernel_rfl) (by kernel_rfl) ?_
          intro cx
          repeat (first | go_big_quiet_skip | (go_big_quiet_want; go_big_quiet_op; first | go_big_quiet_on | (refine ⟨_, fun _ => rfl, ?_⟩; go_big_quiet_on)))
          refine wpQuiet_nil ?_
          rintro _ ⟨y, rfl⟩
          have Y : Hid (Below w.heap.size w y.w) := HW.out.trans (y.h.mono HW.out.size)
          clear cx ca0 cb0 ca1 cb1 ca2 cb2
          have ed : decide (l = l') = false := decide_eq_false fun e => Q.out (by have a := ES.out; rw [e, ET.out] at a; exact (Option.some.inj a).symm)
          go_wp2
          go_ret
          exact ⟨by first | rfl | (rw [ed]; rfl) | rw [ed], Y.out⟩
      · have kl : ¬ (k : Int) < l.length := by omega
        have ed : decide (l = l') = true := decide_eq_true (List.ext_getElem? fun j => by
          by_cases hj : j < k
          · exact AL.out j hj
          · have := HN.out
            rw [List.getElem?_eq_none (by omega), List.getElem?_eq_none (by omega)])
        clear hbw hlt
        go_wp2
        go_ret
        exact ⟨by first | rfl | (rw [ed]; rfl) | rw [ed], HW.out⟩
  · have el' : ((l.length : Int) == (l'.length : Int)) = false := by rw [beq_eq_false_iff_ne]; omega
    have el2 : ((l.length : Int) != (l'.length : Int)) = true := by simp [bne, el']
    have ed : decide (l = l') = false := decide_eq_false fun e => el (by rw [e])
    clear el
    go_enter Tryz.func76, Tryz.ntmps76
    go_wp2
    go_ret
    exact ⟨by first | rfl | (rw [ed]; rfl) | rw [ed], Below.refl _ _⟩
set_option maxHeartbeats 4000000 in
theorem EqualN (x y : Option Addr) (l l' : List Int) (c d : Nat) (w : World) {S : Nat → Prop} (hS : ∀ b, S b → b < w.heap.size) (ha : RwF 1 (Is inC) S w x l) (hb : RwF 1 (Is inC) S w y l') :
    Calls Tryz.prog 36 #[.slice x l.length c, .slice y l'.length d] w fun e w' => e = .returned (.bool (decide (l = l'))) ∧ Below w.heap.size w w' := by
  have HA : Hid (RwF 1 (Is inC) S w x l) := ha
  have HB : Hid (RwF 1 (Is inC) S w y l') := hb
  have HS : Hid _ := hS
  clear ha hb hS
  by_cases el : l.length = l'.length
  · generalize hn : l'.length = n at *
    have HN : Hid _ := hn
    clear hn
    subst el
    go_enter Tryz.func36, Tryz.ntmps36
    go_wp2_with fail
    go_loopw [13] (fun i wr => ∃ k : Nat, k ≤ l.length ∧ i = .int .i64 k ∧ Below w.heap.size w wr ∧ ∀ j, j < k → l[j]? = l'[j]?) (fun i _ => l.length - (intOf i).toNat)
    case atStart => exact ⟨0, Nat.zero_le _, rfl, Below.refl _ _, fun j hj => absurd hj (Nat.not_lt_zero _)⟩
    case round =>
      obtain ⟨k, hk, rfl, hbw, hall⟩ := hrel
      have HW : Hid (Below w.heap.size w wr) := hbw
      have AL : Hid _ := hall
      clear hall
      by_cases hlt : k < l.length
      · obtain ⟨a, rfl⟩ := HA.out.some (by omega)
        obtain ⟨b, rfl⟩ := HB.out.some (by have := HN.out; omega)
        obtain ⟨s, sv, se, _, rfl, sc⟩ := (HA.out.fr (fun q hq => hbw.cell (HS.out _ hq))).el k hlt
        rw [Nat.mul_one] at sc
        have e0 := sc.c0
        obtain ⟨t, tv, te, _, rfl, tc⟩ := (HB.out.fr (fun q hq => hbw.cell (HS.out _ hq))).el k (by have := HN.out; omega)
        rw [Nat.mul_one] at tc
        have d0 := tc.c0
        have ES : Hid (l[k]? = some s) := se
        have ET : Hid (l'[k]? = some t) := te
        have LT : Hid _ := hlt
        have kl : (k : Int) < l.length := by omega
        clear hbw se te hlt sc tc
        have za := block_lt_of_cell e0
        have zb := block_lt_of_cell d0
        by_cases q : s = t
        · subst q
          have f1 : (s == s) = true := by simp
          go_wp2_with fail
          have ca0 : ∀ x : Sub wr, x.w.cell? (a.add k) = some (.int .i64 s) := fun x => (x.h.cell za).trans e0
          have cb0 : ∀ x : Sub wr, x.w.cell? (b.add k) = some (.int .i64 s) := fun x => (x.h.cell zb).trans d0
          refine wp_region_sub2 (by kernel_rfl) (by kernel_rfl) ?_
          intro cx
          repeat (first | go_big_quiet_skip | (go_big_quiet_want; go_big_quiet_op; first | go_big_quiet_on | (refine ⟨_, fun _ => rfl, ?_⟩; go_big_quiet_on)))
          refine wpQuiet_nil ?_
          rintro _ ⟨y, rfl⟩
          have Y : Hid (Below wr.heap.size wr y.w) := y.h
          clear cx ca0 cb0
          have ew : wrap64 ((k : Int) + 1) = (k : Int) + 1 := by have := HA.out.1; have := LT.out; unfold wrap64; omega
          go_wp2
          rw [ew]
          exact ⟨⟨k + 1, Nat.succ_le_of_lt LT.out, rfl, HW.out.trans (Y.out.mono HW.out.size), fun j hj => by rcases Nat.lt_succ_iff_lt_or_eq.1 hj with h | rfl; exact AL.out j h; exact ES.out.trans ET.out.symm⟩, msr LT.out⟩
        · have f1 : (s == t) = false := by simp [q]
          have f2 : (s != t) = true := by simp [bne, f1]
          have Q : Hid _ := q
          clear q
          go_wp2_with fail
          have ca0 : ∀ x : Sub wr, x.w.cell? (a.add k) = some (.int .i64 s) := fun x => (x.h.cell za).trans e0
          have cb0 : ∀ x : Sub wr, x.w.cell? (b.add k) = some (.int .i64 t) := fun x => (x.h.cell zb).trans d0
          refine wp_region_sub2 (by kernel_rfl) (by kernel_rfl) ?_
          intro cx
          repeat (first | go_big_quiet_skip | (go_big_quiet_want; go_big_quiet_op; first | go_big_quiet_on | (refine ⟨_, fun _ => rfl, ?_⟩; go_big_quiet_on)))
          refine wpQuiet_nil ?_
          rintro _ ⟨y, rfl⟩
          have Y : Hid (Below w.heap.size w y.w) := HW.out.trans (y.h.mono HW.out.size)
          clear cx ca0 cb0
          have ed : decide (l = l') = false := decide_eq_false fun e => Q.out (by have a := ES.out; rw [e, ET.out] at a; exact (Option.some.inj a).symm)
          go_wp2
          go_ret
          exact ⟨by first | rfl | (rw [ed]; rfl) | rw [ed], Y.out⟩
      · have kl : ¬ (k : Int) < l.length := by omega
        have ed : decide (l = l') = true := decide_eq_true (List.ext_getElem? fun j => by
          by_cases hj : j < k
          · exact AL.out j hj
          · have := HN.out
            rw [List.getElem?_eq_none (by omega), List.getElem?_eq_none (by omega)])
        clear hbw hlt
        go_wp2
        go_ret
        exact ⟨by first | rfl | (rw [ed]; rfl) | rw [ed], HW.out⟩
  · have el' : ((l.length : Int) == (l'.length : Int)) = false := by rw [beq_eq_false_iff_ne]; omega
    have el2 : ((l.length : Int) != (l'.length : Int)) = true := by simp [bne, el']
    have ed : decide (l = l') = false := decide_eq_false fun e => el (by rw [e])
    clear el
    go_enter Tryz.func36, Tryz.ntmps36
    go_wp2
    go_ret
    exact ⟨by first | rfl | (rw [ed]; rfl) | rw [ed], Below.refl _ _⟩
end Go.Proofs.YtdcjngakmkgbmaaGreat
