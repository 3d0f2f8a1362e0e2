/- Codes in a row copied; no statement of the seat is proved here. -/
import Derived.Test.YtemoebhjcjfmjaaImH
namespace Go.Proofs.Ytemoebhjcjfmjaa
set_option linter.unusedVariables false
open Go.RowKit
theorem infoFi : ∃ i z, Try.prog.info? 46 = some i ∧ i.zero = some z ∧ i.size = 8 ∧ i.bytes = 104 ∧ z.cells.size = 8 := by
  obtain ⟨i, hi, hz⟩ := Option.map_eq_some_iff.1 (show (Try.prog.info? 46).map (fun i => (i.zero.map (·.cells.size), i.size, i.bytes)) = some (some 8, 8, 104) by kernel_rfl)
  simp only [Prod.mk.injEq] at hz
  obtain ⟨z, h1, h2⟩ := Option.map_eq_some_iff.1 hz.1
  exact ⟨i, z, hi, h1, hz.2.1, hz.2.2, h2⟩
set_option maxRecDepth 20000 in
set_option maxHeartbeats 8000000 in
theorem Flats_of (x : Option Addr) (l : List FlR) (c : Nat) (w : World) {S : Nat → Prop} (hS : ∀ b, S b → b < w.heap.size) (ha : RwF 8 (FlP S w) S w x l) :
    Calls Try.prog 8 #[.slice x l.length c] w fun e w' => (∃ y c', e = .returned (.slice y l.length c') ∧ RwF 8 (FlP (Fresh w.heap.size w'.heap.size) w') (Fresh w.heap.size w'.heap.size) w' y l) ∧ Below w.heap.size w w' := by
  have HA : Hid (RwF 8 (FlP S w) S w x l) := ha
  have HS : Hid (∀ b, S b → b < w.heap.size) := hS
  clear ha hS
  go_enter Try.func8, Try.ntmps8
  go_wp2_with fail
  go_loopw [3, 8] (fun out i wr => ∃ k : Nat, k ≤ l.length ∧ i = .int .i64 k ∧ Below w.heap.size w wr ∧ MkI 46 8 FlP w.heap.size l k out wr) (fun _ i _ => l.length - (intOf i).toNat)
  case atStart => exact ⟨0, Nat.zero_le _, rfl, Below.refl _ _, MkI.zero _ _ _ _ _ _⟩
  case round =>
    obtain ⟨k, hk, rfl, hbw, hcp⟩ := hrel
    have HW : Hid (Below w.heap.size w wr) := hbw
    by_cases hlt : k < l.length
    · obtain ⟨vss, ehs, hvn, how, hev⟩ := hcp
      have EHS : Hid _ := ehs
      have HVN : Hid _ := hvn
      have OW : Hid (wr.ownsRow w.heap.size 46 8 u3 k vss.flatten) := how
      have EV' : Hid _ := hev
      clear ehs how hev hvn
      obtain ⟨a, rfl⟩ := HA.out.some (by omega)
      obtain ⟨s, sv, se, _, ⟨sx, sc, sy, sd, rfl, sq⟩, sk⟩ := (HA.out.frK keptF (w' := wr) (fun q hq => hbw.cell (HS.out _ hq))).el k hlt
      have e0 := sk.c0
      have e1 := sk.cp 0 _ rfl
      have e2 := sk.cp 1 _ rfl
      have e3 := sk.cp 2 _ rfl
      have e4 := sk.cp 3 _ rfl
      have e5 := sk.cp 4 _ rfl
      have e6 := sk.cp 5 _ rfl
      have e7 := sk.cp 6 _ rfl
      have ES : Hid (l[k]? = some s) := se
      have QS : Hid (FlQ S wr s sx sy) := sq
      have LT : Hid _ := hlt
      have kl : (k : Int) < l.length := by omega
      clear hbw se hlt sk sq
      have za := block_lt_of_cell e0
      have GA : Hid (∀ X : Obj, Below wr.heap.size wr (wr.alloc X)) := fun X => (Below.refl _ _).alloc (Nat.le_refl _) _
      go_wp2_with fail
      refine (Flat_of s sx sy sc sd _ (fun b h => Nat.lt_of_lt_of_le (Nat.lt_of_lt_of_le (HS.out b h) HW.out.size) (GA.out _).size) (QS.out.fr (fun q hq => (GA.out _).cell (Nat.lt_of_lt_of_le (HS.out _ hq) HW.out.size)))).mono ?_
      rintro r w5 ⟨⟨y0, c0, y2, c2, rfl, fq⟩, hb5⟩
      have B5 : Hid (Below wr.heap.size wr w5) := (GA.out _).trans (hb5.mono (GA.out _).size)
      have F5 : Hid (FlQ (Fresh wr.heap.size w5.heap.size) w5 s y0 y2) := fq.sub (up_sub (GA.out _).size (Nat.le_refl _))
      clear hb5 fq e0 e1 e2 e3 e4 e5 e6 e7 za GA
      have ew : wrap64 ((k : Int) + 1) = (k : Int) + 1 := by have := HA.out.1; have := LT.out; unfold wrap64; omega
      have OW5 : Hid (∀ X : Obj, (w5.alloc X).ownsRow w.heap.size 46 8 u3 k vss.flatten) := fun X => (own_bel OW.out B5.out).alloc X
      have NW : Hid (∀ j u, (flC s (.slice y0 s.os.length c0) (.slice y2 s.ls.length c2))[j]? = some u → (w5.alloc (.cells (flC s (.slice y0 s.os.length c0) (.slice y2 s.ls.length c2)).toArray 46)).cell? ((⟨w5.heap.size, 0, none⟩ : Addr).add j) = some u) := fun j u h => mk_cells w5 _ _ j u h
      have BZ : Hid (∀ X : Obj, w.heap.size ≤ (w5.alloc X).heap.size) := fun X => by have := HW.out.size; have := B5.out.size; simp; omega
      have LE : Hid (k + 1 ≤ 549755813888) := by have := HA.out.1; have := LT.out; show k + 1 ≤ _; omega
      have I : Hid _ := infoFi
      go_wp2_with (at_builtin; obtain ⟨i, z, hi, hz, hs', hy, hzc⟩ := I.out; refine wpList_append_own_at _ rfl _ _ 23 rfl w.heap.size 46 i z 8 104 Try.underlying23 hi hz hs' hy hzc (by decide) u3 k vss.flatten rfl (OW5.out _) ⟨w5.heap.size, 0, none⟩ 1 1 (flC s (.slice y0 s.os.length c0) (.slice y2 s.ls.length c2)) rfl rfl NW.out (by intro u hu; simp at hu; rcases hu with h | h | h | h | h | h | h | h <;> subst h <;> rfl) (by have := LE.out; simp [maxLen]; omega) (by have := LE.out; omega) (BZ.out _) ?_; intro v' w7 q1 q2 q3 q4; have Q1 : Hid _ := q1; have Q2 : Hid _ := q2; have Q4 : Hid _ := q4; clear q1 q2 q3 q4 hi hz hs' hy hzc)
      rw [ew]
      have b6x : ∀ X : Obj, Below w5.heap.size w5 (w5.alloc X) := fun X => (Below.refl _ _).alloc (Nat.le_refl _) _
      have s0 := HW.out.size
      refine ⟨⟨k + 1, Nat.succ_le_of_lt LT.out, rfl, ?_, MkI.step keptF EHS.out HVN.out EV'.out OW.out.lt _ _ ES.out rfl s0 (B5.out.trans ((b6x _).mono B5.out.size)) ⟨y0, c0, y2, c2, rfl, (F5.out.fr (fun q hq => (b6x _).cell hq.2)).sub (up_sub (Nat.le_refl _) (b6x _).size)⟩ Q2.out Q1.out Q4.out⟩, msr LT.out⟩
      exact (HW.out.trans ((B5.out.trans ((b6x _).mono B5.out.size)).mono s0)).grown Q2.out (Nat.le_trans s0 (Nat.le_trans B5.out.size (b6x _).size)) (fun g e => (OW.out.lt g e).1)
    · have kl : ¬ (k : Int) < l.length := by omega
      have ek : k = l.length := by omega
      subst ek
      obtain ⟨y, c2, rfl, hy⟩ := hcp.done keptF HA.out.1
      have HY : Hid _ := hy
      clear hy hcp hbw hlt
      go_wp2
      go_ret
      exact ⟨⟨y, ⟨c2, rfl⟩, HY.out⟩, HW.out⟩
end Go.Proofs.Ytemoebhjcjfmjaa
