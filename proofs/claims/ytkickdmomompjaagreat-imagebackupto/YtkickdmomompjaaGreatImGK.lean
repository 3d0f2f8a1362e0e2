/- Two images compared by the statements' own sameness; no statement of the seat is proved here. -/
import Derived.Test.YtkickdmomompjaaGreatImFK
namespace Go.Proofs.YtkickdmomompjaaGreat
set_option linter.unusedVariables false
open Go.RowKit
set_option maxRecDepth 20000 in
set_option maxHeartbeats 8000000 in
theorem SameImage_of (m m' : ImR) (x1 x2 x3 y1 y2 y3 : Option Addr) (c1 c2 c3 d1 d2 d3 : Nat) (w : World) {S : Nat → Prop} (hS : ∀ b, S b → b < w.heap.size) (ha : ImQ S w m x1 x2 x3) (hb : ImQ S w m' y1 y2 y3) :
    Calls Tryz.prog 8 #[.agg #[.string m.nm, .slice x1 m.cs.length c1, .slice x2 m.fs.length c2, .slice x3 m.js.length c3], .agg #[.string m'.nm, .slice y1 m'.cs.length d1, .slice y2 m'.fs.length d2, .slice y3 m'.js.length d3]] w fun e w' => e = .returned (.bool (decide (m = m'))) ∧ Below w.heap.size w w' := by
  have FR : ∀ W, Below w.heap.size w W → FrS S w W := fun W hb q hq => hb.cell (hS _ hq)
  have SS : Hid (∀ W, Below w.heap.size w W → ∀ b, S b → b < W.heap.size) := fun W hb b h => Nat.lt_of_lt_of_le (hS b h) hb.size
  have Q1 : Hid (∀ W, Below w.heap.size w W → Calls Tryz.prog 18 #[.slice x1 m.cs.length c1, .slice y1 m'.cs.length d1] W fun e w' => e = .returned (.bool (decide (m.cs = m'.cs))) ∧ Below W.heap.size W w') := fun W h => EqualC _ _ _ _ _ _ _ (SS.out W h) (ha.fr (FR W h)).1 (hb.fr (FR W h)).1
  have Q2 : Hid (∀ W, Below w.heap.size w W → Calls Tryz.prog 19 #[.slice x2 m.fs.length c2, .slice y2 m'.fs.length d2] W fun e w' => e = .returned (.bool (decide (m.fs = m'.fs))) ∧ Below W.heap.size W w') := fun W h => SameFlats_of _ _ _ _ _ _ _ (SS.out W h) (ha.fr (FR W h)).2.1 (hb.fr (FR W h)).2.1
  have HA : Hid (∀ W, Below w.heap.size w W → RwF 7 (JbP S W) S W x3 m.js) := fun W h => (ha.fr (FR W h)).2.2
  have HB : Hid (∀ W, Below w.heap.size w W → RwF 7 (JbP S W) S W y3 m'.js) := fun W h => (hb.fr (FR W h)).2.2
  have HX : Hid (∀ W f f' x1 x2 y1 y2 c1 c2 d1 d2, Below w.heap.size w W → JbQ S W f x1 x2 → JbQ S W f' y1 y2 → Calls Tryz.prog 20 #[.agg #[.string f.nm, .int .i64 f.iv, .int .i64 f.sg, .int .i64 f.pr, .slice x1 f.cs.length c1, .slice x2 f.bs.length c2, .int .i64 f.bd], .agg #[.string f'.nm, .int .i64 f'.iv, .int .i64 f'.sg, .int .i64 f'.pr, .slice y1 f'.cs.length d1, .slice y2 f'.bs.length d2, .int .i64 f'.bd]] W fun e w' => e = .returned (.bool (decide (f = f'))) ∧ Below W.heap.size W w') := fun W f f' x1 x2 y1 y2 c1 c2 d1 d2 hb h1 h2 => SameJob_of f f' x1 x2 y1 y2 c1 c2 d1 d2 W (SS.out W hb) h1 h2
  have FRH : Hid (∀ W, Below w.heap.size w W → FrS S w W) := FR
  have HS : Hid (∀ b, S b → b < w.heap.size) := hS
  clear ha hb hS FR
  have GQ : Hid (∀ X Y : Obj, Below w.heap.size w ((w.alloc X).alloc Y)) := fun X Y => GR w X Y
  rw [img_dec]
  generalize decide (m.cs = m'.cs) = r1 at *
  generalize decide (m.fs = m'.fs) = r2 at *
  generalize hr3 : decide (m.js = m'.js) = r3 at *
  obtain ⟨nm, cs, fs, js⟩ := m
  obtain ⟨nm', cs', fs', js'⟩ := m'
  simp only at Q1 Q2 HA HB hr3 ⊢
  have R3 : Hid (decide (js = js') = r3) := hr3
  clear hr3
  by_cases E0 : nm = nm'
  case neg =>
    have q1 : (nm.toList == nm'.toList) = false := by apply Bool.eq_false_iff.2; intro q; exact E0 (ba_ext (by simpa using q))
    have q2 : (nm.toList != nm'.toList) = true := by simp [bne, q1]
    have ed : decide (nm = nm') = false := decide_eq_false E0
    clear E0
    rw [ed]
    clear ed
    go_enter Tryz.func8, Tryz.ntmps8
    go_wp2
    go_ret
    exact ⟨by simp, GQ.out _ _⟩
  subst E0
  rw [decide_eq_true rfl]
  go_enter Tryz.func8, Tryz.ntmps8
  go_wp2_with fail
  refine (Q1.out _ (GQ.out _ _)).mono ?_
  rintro e w1 ⟨rfl, hb⟩
  have X1 := (hb.block w.heap.size (by simp; omega)).trans (two_at w _ _).1
  have Y1 := (hb.block (w.heap.size + 1) (by simp)).trans (two_at w _ _).2
  have k1 : w1.cell? ⟨w.heap.size, 2, none⟩ = some (.slice x2 fs.length c2) := by simp [World.cell?, X1]
  have k2 : w1.cell? ⟨w.heap.size + 1, 2, none⟩ = some (.slice y2 fs'.length d2) := by simp [World.cell?, Y1]
  have XX : Hid _ := X1
  have YY : Hid _ := Y1
  have s1 : w.heap.size + 2 ≤ w1.heap.size := by have := hb.size; simp at this; omega
  have B1 : Hid (Below w.heap.size w w1) := (GQ.out _ _).trans (hb.mono (GQ.out _ _).size)
  clear hb X1 Y1
  cases r1
  · go_wp2
    go_ret
    exact ⟨by simp, B1.out⟩
  · go_wp2_with fail
    refine (Q2.out _ B1.out).mono ?_
    rintro e w2 ⟨rfl, hb⟩
    have B2 : Hid (Below w.heap.size w w2) := B1.out.trans (hb.mono B1.out.size)
    have X2 := (hb.block w.heap.size (by omega)).trans XX.out
    have Y2 := (hb.block (w.heap.size + 1) (by omega)).trans YY.out
    have k3 : w2.cell? ⟨w.heap.size, 3, none⟩ = some (.slice x3 js.length c3) := by simp [World.cell?, X2]
    have k4 : w2.cell? ⟨w.heap.size + 1, 3, none⟩ = some (.slice y3 js'.length d3) := by simp [World.cell?, Y2]
    have s2 : w.heap.size + 2 ≤ w2.heap.size := by have := hb.size; omega
    clear hb X2 Y2 XX YY k1 k2 s1
    cases r2
    · go_wp2
      go_ret
      exact ⟨by simp, B2.out⟩
    · by_cases el : js.length = js'.length
      case neg =>
        have el' : ((js.length : Int) == (js'.length : Int)) = false := by rw [beq_eq_false_iff_ne]; omega
        have el2 : ((js.length : Int) != (js'.length : Int)) = true := by simp [bne, el']
        have ed : r3 = false := R3.out.symm.trans (decide_eq_false fun e => el (by rw [e]))
        subst ed
        clear el
        go_wp2
        go_ret
        exact ⟨by simp, B2.out⟩
      have EL : Hid _ := el
      have el' : ((js.length : Int) == (js'.length : Int)) = true := by rw [beq_iff_eq]; omega
      have el2 : ((js.length : Int) != (js'.length : Int)) = false := by simp [bne, el']
      clear el
      have FLH : Hid _ := (HA.out _ (Below.refl _ _)).1
      go_wp2_with fail
      go_loopw [39] (fun i wr => ∃ k : Nat, k ≤ js.length ∧ i = .int .i64 k ∧ Below w2.heap.size w2 wr ∧ ∀ j, j < k → js[j]? = js'[j]?) (fun i _ => js.length - (intOf i).toNat)
      case atStart => exact ⟨0, Nat.zero_le _, rfl, Below.refl _ _, fun j hj => absurd hj (Nat.not_lt_zero _)⟩
      case round =>
        obtain ⟨k, hk, rfl, hbw, hall⟩ := hrel
        have HV : Hid (Below w2.heap.size w2 wr) := hbw
        have HW : Hid (Below w.heap.size w wr) := B2.out.trans (hbw.mono B2.out.size)
        have AL : Hid _ := hall
        clear hall
        by_cases hlt : k < js.length
        · obtain ⟨a, rfl⟩ := (HA.out _ (Below.refl _ _)).some (by omega)
          obtain ⟨b, rfl⟩ := (HB.out _ (Below.refl _ _)).some (by have := EL.out; omega)
          obtain ⟨s, sv, se, _, ⟨sx, sc, sy, sd, rfl, sq⟩, sk⟩ := (HA.out _ HW.out).el k hlt
          obtain ⟨t, tv, te, _, ⟨tx, tc, ty, td, rfl, tq⟩, tk⟩ := (HB.out _ HW.out).el k (by have := EL.out; omega)
          have e0 := sk.c0
          have e1 := sk.cp 0 _ rfl
          have e2 := sk.cp 1 _ rfl
          have e3 := sk.cp 2 _ rfl
          have e4 := sk.cp 3 _ rfl
          have e5 := sk.cp 4 _ rfl
          have e6 := sk.cp 5 _ rfl
          have g0 := tk.c0
          have g1 := tk.cp 0 _ rfl
          have g2 := tk.cp 1 _ rfl
          have g3 := tk.cp 2 _ rfl
          have g4 := tk.cp 3 _ rfl
          have g5 := tk.cp 4 _ rfl
          have g6 := tk.cp 5 _ rfl
          have ES : Hid (js[k]? = some s) := se
          have ET : Hid (js'[k]? = some t) := te
          have QS : Hid (JbQ S wr s sx sy) := sq
          have QT : Hid (JbQ S wr t tx ty) := tq
          have LT : Hid _ := hlt
          have kl : (k : Int) < js.length := by omega
          have kl2 : (k : Int) < js'.length := by have := EL.out; omega
          have j3 : ∀ x : Sub wr, x.w.cell? ⟨w.heap.size, 3, none⟩ = some (.slice (some a) js.length c3) := fun x => (x.h.cell (p := ⟨w.heap.size, 3, none⟩) (by have := HV.out.size; show w.heap.size < _; omega)).trans ((HV.out.cell (p := ⟨w.heap.size, 3, none⟩) (by show w.heap.size < _; omega)).trans k3)
          have j4 : ∀ x : Sub wr, x.w.cell? ⟨w.heap.size + 1, 3, none⟩ = some (.slice (some b) js'.length d3) := fun x => (x.h.cell (p := ⟨w.heap.size + 1, 3, none⟩) (by have := HV.out.size; show w.heap.size + 1 < _; omega)).trans ((HV.out.cell (p := ⟨w.heap.size + 1, 3, none⟩) (by show w.heap.size + 1 < _; omega)).trans k4)
          clear hbw se te hlt sk tk sq tq
          have za := block_lt_of_cell e0
          have zb := block_lt_of_cell g0
          go_wp2_with fail
          have ca0 : ∀ x : Sub wr, x.w.cell? (a.add (k * 7)) = some (.string s.nm) := fun x => (x.h.cell za).trans e0
          have ca1 : ∀ x : Sub wr, x.w.cell? ⟨(a.add (k * 7)).block, (a.add (k * 7)).off + 1, none⟩ = some (.int .i64 s.iv) := fun x => (x.h.cell (p := ⟨(a.add (k * 7)).block, (a.add (k * 7)).off + 1, none⟩) za).trans e1
          have ca2 : ∀ x : Sub wr, x.w.cell? ⟨(a.add (k * 7)).block, (a.add (k * 7)).off + 2, none⟩ = some (.int .i64 s.sg) := fun x => (x.h.cell (p := ⟨(a.add (k * 7)).block, (a.add (k * 7)).off + 2, none⟩) za).trans e2
          have ca3 : ∀ x : Sub wr, x.w.cell? ⟨(a.add (k * 7)).block, (a.add (k * 7)).off + 3, none⟩ = some (.int .i64 s.pr) := fun x => (x.h.cell (p := ⟨(a.add (k * 7)).block, (a.add (k * 7)).off + 3, none⟩) za).trans e3
          have ca4 : ∀ x : Sub wr, x.w.cell? ⟨(a.add (k * 7)).block, (a.add (k * 7)).off + 4, none⟩ = some (.slice sx s.cs.length sc) := fun x => (x.h.cell (p := ⟨(a.add (k * 7)).block, (a.add (k * 7)).off + 4, none⟩) za).trans e4
          have ca5 : ∀ x : Sub wr, x.w.cell? ⟨(a.add (k * 7)).block, (a.add (k * 7)).off + 5, none⟩ = some (.slice sy s.bs.length sd) := fun x => (x.h.cell (p := ⟨(a.add (k * 7)).block, (a.add (k * 7)).off + 5, none⟩) za).trans e5
          have ca6 : ∀ x : Sub wr, x.w.cell? ⟨(a.add (k * 7)).block, (a.add (k * 7)).off + 6, none⟩ = some (.int .i64 s.bd) := fun x => (x.h.cell (p := ⟨(a.add (k * 7)).block, (a.add (k * 7)).off + 6, none⟩) za).trans e6
          have cb0 : ∀ x : Sub wr, x.w.cell? (b.add (k * 7)) = some (.string t.nm) := fun x => (x.h.cell zb).trans g0
          have cb1 : ∀ x : Sub wr, x.w.cell? ⟨(b.add (k * 7)).block, (b.add (k * 7)).off + 1, none⟩ = some (.int .i64 t.iv) := fun x => (x.h.cell (p := ⟨(b.add (k * 7)).block, (b.add (k * 7)).off + 1, none⟩) zb).trans g1
          have cb2 : ∀ x : Sub wr, x.w.cell? ⟨(b.add (k * 7)).block, (b.add (k * 7)).off + 2, none⟩ = some (.int .i64 t.sg) := fun x => (x.h.cell (p := ⟨(b.add (k * 7)).block, (b.add (k * 7)).off + 2, none⟩) zb).trans g2
          have cb3 : ∀ x : Sub wr, x.w.cell? ⟨(b.add (k * 7)).block, (b.add (k * 7)).off + 3, none⟩ = some (.int .i64 t.pr) := fun x => (x.h.cell (p := ⟨(b.add (k * 7)).block, (b.add (k * 7)).off + 3, none⟩) zb).trans g3
          have cb4 : ∀ x : Sub wr, x.w.cell? ⟨(b.add (k * 7)).block, (b.add (k * 7)).off + 4, none⟩ = some (.slice tx t.cs.length tc) := fun x => (x.h.cell (p := ⟨(b.add (k * 7)).block, (b.add (k * 7)).off + 4, none⟩) zb).trans g4
          have cb5 : ∀ x : Sub wr, x.w.cell? ⟨(b.add (k * 7)).block, (b.add (k * 7)).off + 5, none⟩ = some (.slice ty t.bs.length td) := fun x => (x.h.cell (p := ⟨(b.add (k * 7)).block, (b.add (k * 7)).off + 5, none⟩) zb).trans g5
          have cb6 : ∀ x : Sub wr, x.w.cell? ⟨(b.add (k * 7)).block, (b.add (k * 7)).off + 6, none⟩ = some (.int .i64 t.bd) := fun x => (x.h.cell (p := ⟨(b.add (k * 7)).block, (b.add (k * 7)).off + 6, none⟩) zb).trans g6
          have E1 : Hid (∀ y : Sub wr, Calls Tryz.prog 20 #[.agg #[.string s.nm, .int .i64 s.iv, .int .i64 s.sg, .int .i64 s.pr, .slice sx s.cs.length sc, .slice sy s.bs.length sd, .int .i64 s.bd], .agg #[.string t.nm, .int .i64 t.iv, .int .i64 t.sg, .int .i64 t.pr, .slice tx t.cs.length tc, .slice ty t.bs.length td, .int .i64 t.bd]] y.w fun e w' => e = .returned (.bool (decide (s = t))) ∧ Below y.w.heap.size y.w w') := fun y => HX.out _ _ _ _ _ _ _ _ _ _ _ (HW.out.trans (y.h.mono HW.out.size)) (QS.out.fr (fun q hq => y.h.cell (Nat.lt_of_lt_of_le (HS.out _ hq) HW.out.size))) (QT.out.fr (fun q hq => y.h.cell (Nat.lt_of_lt_of_le (HS.out _ hq) HW.out.size)))
          generalize hq : decide (s = t) = bq at *
          have HQ : Hid (decide (s = t) = bq) := hq
          clear hq
          refine wp_region_sub2 (by kernel_rfl) (by kernel_rfl) ?_
          intro cx
          repeat (first | go_big_quiet_skip | (go_big_quiet_want; go_big_quiet_op; first | go_big_quiet_on | (refine ⟨_, fun _ => rfl, ?_⟩; go_big_quiet_on) | go_big_quiet_call (first | (go_at_call 20; exact calls_sub (E1.out _)))))
          refine wpQuiet_nil ?_
          rintro _ ⟨y, rfl⟩
          have B5 : Hid (Below w2.heap.size w2 y.w) := HV.out.trans (y.h.mono HV.out.size)
          clear cx E1 e0 e1 e2 e3 e4 e5 e6 g0 g1 g2 g3 g4 g5 g6 za zb ca0 ca1 ca2 ca3 ca4 ca5 ca6 cb0 cb1 cb2 cb3 cb4 cb5 cb6 j3 j4
          cases bq
          · have ed : r3 = false := R3.out.symm.trans (decide_eq_false fun e => of_decide_eq_false HQ.out (by have a := ES.out; rw [e, ET.out] at a; exact (Option.some.inj a).symm))
            subst ed
            go_wp2
            go_ret
            exact ⟨by simp, B2.out.trans (B5.out.mono B2.out.size)⟩
          · have ew : wrap64 ((k : Int) + 1) = (k : Int) + 1 := by have := FLH.out; have := LT.out; unfold wrap64; omega
            go_wp2
            rw [ew]
            exact ⟨⟨k + 1, Nat.succ_le_of_lt LT.out, rfl, B5.out, fun j hj => by rcases Nat.lt_succ_iff_lt_or_eq.1 hj with h | rfl; exact AL.out j h; rw [ES.out, ET.out, of_decide_eq_true HQ.out]⟩, msr LT.out⟩
        · have kl : ¬ (k : Int) < js.length := by omega
          have ed : r3 = true := R3.out.symm.trans (decide_eq_true (List.ext_getElem? fun j => by
            by_cases hj : j < k
            · exact AL.out j hj
            · have := EL.out
              rw [List.getElem?_eq_none (by omega), List.getElem?_eq_none (by omega)]))
          subst ed
          clear hbw hlt
          go_wp2
          go_ret
          exact ⟨by simp, HW.out⟩
end Go.Proofs.YtkickdmomompjaaGreat
