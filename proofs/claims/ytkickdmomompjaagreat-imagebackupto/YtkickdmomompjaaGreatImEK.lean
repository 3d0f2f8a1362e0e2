/- Rows of codes and of tasks compared; two images compared; no statement of the seat is proved here. -/
import Derived.Test.YtkickdmomompjaaGreatImDK
namespace Go.Proofs.YtkickdmomompjaaGreat
set_option linter.unusedVariables false
open Go.RowKit
theorem GR (w : World) (X Y : Obj) : Below w.heap.size w ((w.alloc X).alloc Y) := ((Below.refl _ _).alloc (Nat.le_refl _) _).alloc (by simp) _
set_option maxRecDepth 20000 in
set_option maxHeartbeats 4000000 in
theorem EqualFF (x y : Option Addr) (l l' : List FlR) (c d : Nat) (w : World) {S : Nat → Prop} (hS : ∀ b, S b → b < w.heap.size) (ha : RwF 8 (FlP S w) S w x l) (hb : RwF 8 (FlP S w) S w y l') :
    Calls Tryz.prog 21 #[.slice x l.length c, .slice y l'.length d, .func (.func 22) #[] #[]] w fun e w' => e = .returned (.bool (decide (l = l'))) ∧ Below w.heap.size w w' := by
  have HA : Hid (RwF 8 (FlP S w) S w x l) := ha
  have HB : Hid (RwF 8 (FlP S w) S w y l') := hb
  have HS : Hid (∀ b, S b → b < w.heap.size) := hS
  have HX : Hid (∀ W f f' x1 x2 y1 y2 c1 c2 d1 d2, Below w.heap.size w W → FlQ S W f x1 x2 → FlQ S W f' y1 y2 → Calls Tryz.prog 22 #[.agg #[.string f.nm, .int .i64 f.wh, .int .i64 f.ce, .int .i64 f.ba, .int .i64 f.rg, .int .i64 f.sl, .slice x1 f.os.length c1, .slice x2 f.ls.length c2], .agg #[.string f'.nm, .int .i64 f'.wh, .int .i64 f'.ce, .int .i64 f'.ba, .int .i64 f'.rg, .int .i64 f'.sl, .slice y1 f'.os.length d1, .slice y2 f'.ls.length d2]] W fun e w' => e = .returned (.bool (decide (f = f'))) ∧ Below W.heap.size W w') := fun W f f' x1 x2 y1 y2 c1 c2 d1 d2 hb h1 h2 => sameCode_of f f' x1 x2 y1 y2 c1 c2 d1 d2 W (fun b h => Nat.lt_of_lt_of_le (HS.out b h) hb.size) h1 h2
  clear ha hb hS
  have hE : ∀ args w, (callFunc 22 args).run Tryz.prog w = .ok (.enter 22 args) w := fun args w => by kernel_rfl
  by_cases el : l.length = l'.length
  · generalize hn : l'.length = n at *
    have HN : Hid _ := hn
    clear hn
    subst el
    go_enter Tryz.func21, Tryz.ntmps21
    go_wp2_with fail
    go_loopw [17] (fun i wr => ∃ k : Nat, k ≤ l.length ∧ i = .int .i64 k ∧ Below w.heap.size w wr ∧ ∀ j, j < k → l[j]? = l'[j]?) (fun i _ => l.length - (intOf i).toNat)
    case atStart => exact ⟨0, Nat.zero_le _, rfl, Below.refl _ _, fun j hj => absurd hj (Nat.not_lt_zero _)⟩
    case round =>
      obtain ⟨k, hk, rfl, hbw, hall⟩ := hrel
      have HW : Hid (Below w.heap.size w wr) := hbw
      have AL : Hid _ := hall
      clear hall
      by_cases hlt : k < l.length
      · obtain ⟨a, rfl⟩ := HA.out.some (by omega)
        obtain ⟨b, rfl⟩ := HB.out.some (by have := HN.out; omega)
        obtain ⟨s, sv, se, _, ⟨sx, sc, sy, sd, rfl, sq⟩, sk⟩ := (HA.out.frK keptF (w' := wr) (fun q hq => hbw.cell (HS.out _ hq))).el k hlt
        have e0 := sk.c0
        have e1 := sk.cp 0 _ rfl
        have e2 := sk.cp 1 _ rfl
        have e3 := sk.cp 2 _ rfl
        have e4 := sk.cp 3 _ rfl
        have e5 := sk.cp 4 _ rfl
        have e6 := sk.cp 5 _ rfl
        have e7 := sk.cp 6 _ rfl
        obtain ⟨t, tv, te, _, ⟨tx, tc, ty, td, rfl, tq⟩, tk⟩ := (HB.out.frK keptF (w' := wr) (fun q hq => hbw.cell (HS.out _ hq))).el k (by have := HN.out; omega)
        have d0 := tk.c0
        have d1 := tk.cp 0 _ rfl
        have d2 := tk.cp 1 _ rfl
        have d3 := tk.cp 2 _ rfl
        have d4 := tk.cp 3 _ rfl
        have d5 := tk.cp 4 _ rfl
        have d6 := tk.cp 5 _ rfl
        have d7 := tk.cp 6 _ rfl
        have ES : Hid (l[k]? = some s) := se
        have ET : Hid (l'[k]? = some t) := te
        have QS : Hid (FlQ S wr s sx sy) := sq
        have QT : Hid (FlQ S wr t tx ty) := tq
        have LT : Hid _ := hlt
        have kl : (k : Int) < l.length := by omega
        clear hbw se te hlt sk tk sq tq
        have za := block_lt_of_cell e0
        have zb := block_lt_of_cell d0
        go_wp2_with fail
        first
          | refine (HX.out _ _ _ _ _ _ _ _ _ _ _ HW.out QS.out QT.out).mono ?_
          | refine (HX.out _ _ _ _ _ _ _ _ _ _ _ (HW.out.trans ((GR _ _ _).mono HW.out.size)) (QS.out.fr (fun q hq => (GR wr _ _).cell (Nat.lt_of_lt_of_le (HS.out _ hq) HW.out.size))) (QT.out.fr (fun q hq => (GR wr _ _).cell (Nat.lt_of_lt_of_le (HS.out _ hq) HW.out.size)))).mono ?_
        rintro r w5 ⟨rfl, hb5⟩
        have B5 : Hid (Below w.heap.size w w5) := by first | exact HW.out.trans (hb5.mono HW.out.size) | exact HW.out.trans (((GR wr _ _).trans (hb5.mono (GR wr _ _).size)).mono HW.out.size)
        clear hb5 e0 d0 e1 d1 e2 d2 e3 d3 e4 d4 e5 d5 e6 d6 e7 d7 za zb
        by_cases q : s = t
        · have qq : decide (s = t) = true := decide_eq_true q
          have Q : Hid _ := q
          clear q
          rw [qq]
          have ew : wrap64 ((k : Int) + 1) = (k : Int) + 1 := by have := HA.out.1; have := LT.out; unfold wrap64; omega
          go_wp2
          rw [ew]
          exact ⟨⟨k + 1, Nat.succ_le_of_lt LT.out, rfl, B5.out, fun j hj => by rcases Nat.lt_succ_iff_lt_or_eq.1 hj with h | rfl; exact AL.out j h; rw [ES.out, ET.out, Q.out]⟩, msr LT.out⟩
        · have qq : decide (s = t) = false := decide_eq_false q
          have Q : Hid _ := q
          clear q
          rw [qq]
          have ed : decide (l = l') = false := decide_eq_false fun e => Q.out (by have a := ES.out; rw [e, ET.out] at a; exact (Option.some.inj a).symm)
          clear qq
          go_wp2
          go_ret
          exact ⟨by first | rfl | (rw [ed]; rfl) | rw [ed], B5.out⟩
      · have kl : ¬ (k : Int) < l.length := by omega
        have ed : decide (l = l') = true := decide_eq_true (List.ext_getElem? fun j => by
          by_cases hj : j < k
          · exact AL.out j hj
          · have := HN.out
            rw [List.getElem?_eq_none (by omega), List.getElem?_eq_none (by omega)])
        clear hbw hlt
        go_wp2
        go_ret
        exact ⟨by first | rfl | (rw [ed]; rfl) | rw [ed], HW.out⟩
  · have el' : ((l.length : Int) == (l'.length : Int)) = false := by rw [beq_eq_false_iff_ne]; omega
    have el2 : ((l.length : Int) != (l'.length : Int)) = true := by simp [bne, el']
    have ed : decide (l = l') = false := decide_eq_false fun e => el (by rw [e])
    clear el
    go_enter Tryz.func21, Tryz.ntmps21
    go_wp2
    go_ret
    exact ⟨by first | rfl | (rw [ed]; rfl) | rw [ed], Below.refl _ _⟩
set_option maxRecDepth 20000 in
set_option maxHeartbeats 4000000 in
theorem EqualFJ (x y : Option Addr) (l l' : List JbR) (c d : Nat) (w : World) {S : Nat → Prop} (hS : ∀ b, S b → b < w.heap.size) (ha : RwF 7 (JbP S w) S w x l) (hb : RwF 7 (JbP S w) S w y l') :
    Calls Tryz.prog 23 #[.slice x l.length c, .slice y l'.length d, .func (.func 24) #[] #[]] w fun e w' => e = .returned (.bool (decide (l = l'))) ∧ Below w.heap.size w w' := by
  have HA : Hid (RwF 7 (JbP S w) S w x l) := ha
  have HB : Hid (RwF 7 (JbP S w) S w y l') := hb
  have HS : Hid (∀ b, S b → b < w.heap.size) := hS
  have HX : Hid (∀ W f f' x1 x2 y1 y2 c1 c2 d1 d2, Below w.heap.size w W → JbQ S W f x1 x2 → JbQ S W f' y1 y2 → Calls Tryz.prog 24 #[.agg #[.string f.nm, .int .i64 f.iv, .int .i64 f.sg, .int .i64 f.pr, .slice x1 f.cs.length c1, .slice x2 f.bs.length c2, .int .i64 f.bd], .agg #[.string f'.nm, .int .i64 f'.iv, .int .i64 f'.sg, .int .i64 f'.pr, .slice y1 f'.cs.length d1, .slice y2 f'.bs.length d2, .int .i64 f'.bd]] W fun e w' => e = .returned (.bool (decide (f = f'))) ∧ Below W.heap.size W w') := fun W f f' x1 x2 y1 y2 c1 c2 d1 d2 hb h1 h2 => sameJob_of f f' x1 x2 y1 y2 c1 c2 d1 d2 W (fun b h => Nat.lt_of_lt_of_le (HS.out b h) hb.size) h1 h2
  clear ha hb hS
  have hE : ∀ args w, (callFunc 24 args).run Tryz.prog w = .ok (.enter 24 args) w := fun args w => by kernel_rfl
  by_cases el : l.length = l'.length
  · generalize hn : l'.length = n at *
    have HN : Hid _ := hn
    clear hn
    subst el
    go_enter Tryz.func23, Tryz.ntmps23
    go_wp2_with fail
    go_loopw [17] (fun i wr => ∃ k : Nat, k ≤ l.length ∧ i = .int .i64 k ∧ Below w.heap.size w wr ∧ ∀ j, j < k → l[j]? = l'[j]?) (fun i _ => l.length - (intOf i).toNat)
    case atStart => exact ⟨0, Nat.zero_le _, rfl, Below.refl _ _, fun j hj => absurd hj (Nat.not_lt_zero _)⟩
    case round =>
      obtain ⟨k, hk, rfl, hbw, hall⟩ := hrel
      have HW : Hid (Below w.heap.size w wr) := hbw
      have AL : Hid _ := hall
      clear hall
      by_cases hlt : k < l.length
      · obtain ⟨a, rfl⟩ := HA.out.some (by omega)
        obtain ⟨b, rfl⟩ := HB.out.some (by have := HN.out; omega)
        obtain ⟨s, sv, se, _, ⟨sx, sc, sy, sd, rfl, sq⟩, sk⟩ := (HA.out.frK keptJ (w' := wr) (fun q hq => hbw.cell (HS.out _ hq))).el k hlt
        have e0 := sk.c0
        have e1 := sk.cp 0 _ rfl
        have e2 := sk.cp 1 _ rfl
        have e3 := sk.cp 2 _ rfl
        have e4 := sk.cp 3 _ rfl
        have e5 := sk.cp 4 _ rfl
        have e6 := sk.cp 5 _ rfl
        obtain ⟨t, tv, te, _, ⟨tx, tc, ty, td, rfl, tq⟩, tk⟩ := (HB.out.frK keptJ (w' := wr) (fun q hq => hbw.cell (HS.out _ hq))).el k (by have := HN.out; omega)
        have d0 := tk.c0
        have d1 := tk.cp 0 _ rfl
        have d2 := tk.cp 1 _ rfl
        have d3 := tk.cp 2 _ rfl
        have d4 := tk.cp 3 _ rfl
        have d5 := tk.cp 4 _ rfl
        have d6 := tk.cp 5 _ rfl
        have ES : Hid (l[k]? = some s) := se
        have ET : Hid (l'[k]? = some t) := te
        have QS : Hid (JbQ S wr s sx sy) := sq
        have QT : Hid (JbQ S wr t tx ty) := tq
        have LT : Hid _ := hlt
        have kl : (k : Int) < l.length := by omega
        clear hbw se te hlt sk tk sq tq
        have za := block_lt_of_cell e0
        have zb := block_lt_of_cell d0
        go_wp2_with fail
        first
          | refine (HX.out _ _ _ _ _ _ _ _ _ _ _ HW.out QS.out QT.out).mono ?_
          | refine (HX.out _ _ _ _ _ _ _ _ _ _ _ (HW.out.trans ((GR _ _ _).mono HW.out.size)) (QS.out.fr (fun q hq => (GR wr _ _).cell (Nat.lt_of_lt_of_le (HS.out _ hq) HW.out.size))) (QT.out.fr (fun q hq => (GR wr _ _).cell (Nat.lt_of_lt_of_le (HS.out _ hq) HW.out.size)))).mono ?_
        rintro r w5 ⟨rfl, hb5⟩
        have B5 : Hid (Below w.heap.size w w5) := by first | exact HW.out.trans (hb5.mono HW.out.size) | exact HW.out.trans (((GR wr _ _).trans (hb5.mono (GR wr _ _).size)).mono HW.out.size)
        clear hb5 e0 d0 e1 d1 e2 d2 e3 d3 e4 d4 e5 d5 e6 d6 za zb
        by_cases q : s = t
        · have qq : decide (s = t) = true := decide_eq_true q
          have Q : Hid _ := q
          clear q
          rw [qq]
          have ew : wrap64 ((k : Int) + 1) = (k : Int) + 1 := by have := HA.out.1; have := LT.out; unfold wrap64; omega
          go_wp2
          rw [ew]
          exact ⟨⟨k + 1, Nat.succ_le_of_lt LT.out, rfl, B5.out, fun j hj => by rcases Nat.lt_succ_iff_lt_or_eq.1 hj with h | rfl; exact AL.out j h; rw [ES.out, ET.out, Q.out]⟩, msr LT.out⟩
        · have qq : decide (s = t) = false := decide_eq_false q
          have Q : Hid _ := q
          clear q
          rw [qq]
          have ed : decide (l = l') = false := decide_eq_false fun e => Q.out (by have a := ES.out; rw [e, ET.out] at a; exact (Option.some.inj a).symm)
          clear qq
          go_wp2
          go_ret
          exact ⟨by first | rfl | (rw [ed]; rfl) | rw [ed], B5.out⟩
      · have kl : ¬ (k : Int) < l.length := by omega
        have ed : decide (l = l') = true := decide_eq_true (List.ext_getElem? fun j => by
          by_cases hj : j < k
          · exact AL.out j hj
          · have := HN.out
            rw [List.getElem?_eq_none (by omega), List.getElem?_eq_none (by omega)])
        clear hbw hlt
        go_wp2
        go_ret
        exact ⟨by first | rfl | (rw [ed]; rfl) | rw [ed], HW.out⟩
  · have el' : ((l.length : Int) == (l'.length : Int)) = false := by rw [beq_eq_false_iff_ne]; omega
    have el2 : ((l.length : Int) != (l'.length : Int)) = true := by simp [bne, el']
    have ed : decide (l = l') = false := decide_eq_false fun e => el (by rw [e])
    clear el
    go_enter Tryz.func23, Tryz.ntmps23
    go_wp2
    go_ret
    exact ⟨by first | rfl | (rw [ed]; rfl) | rw [ed], Below.refl _ _⟩
set_option maxRecDepth 20000 in
set_option maxHeartbeats 4000000 in
theorem SameFlats_of (x y : Option Addr) (l l' : List FlR) (c d : Nat) (w : World) {S : Nat → Prop} (hS : ∀ b, S b → b < w.heap.size) (ha : RwF 8 (FlP S w) S w x l) (hb : RwF 8 (FlP S w) S w y l') :
    Calls Tryz.prog 19 #[.slice x l.length c, .slice y l'.length d] w fun e w' => e = .returned (.bool (decide (l = l'))) ∧ Below w.heap.size w w' := by
  have HA : Hid (RwF 8 (FlP S w) S w x l) := ha
  have HB : Hid (RwF 8 (FlP S w) S w y l') := hb
  have HS : Hid (∀ b, S b → b < w.heap.size) := hS
  have HX : Hid (∀ W f f' x1 x2 y1 y2 c1 c2 d1 d2, Below w.heap.size w W → FlQ S W f x1 x2 → FlQ S W f' y1 y2 → Calls Tryz.prog 43 #[.agg #[.string f.nm, .int .i64 f.wh, .int .i64 f.ce, .int .i64 f.ba, .int .i64 f.rg, .int .i64 f.sl, .slice x1 f.os.length c1, .slice x2 f.ls.length c2], .agg #[.string f'.nm, .int .i64 f'.wh, .int .i64 f'.ce, .int .i64 f'.ba, .int .i64 f'.rg, .int .i64 f'.sl, .slice y1 f'.os.length d1, .slice y2 f'.ls.length d2]] W fun e w' => e = .returned (.bool (decide (f = f'))) ∧ Below W.heap.size W w') := fun W f f' x1 x2 y1 y2 c1 c2 d1 d2 hb h1 h2 => SameFlat_of f f' x1 x2 y1 y2 c1 c2 d1 d2 W (fun b h => Nat.lt_of_lt_of_le (HS.out b h) hb.size) h1 h2
  clear ha hb hS
  by_cases el : l.length = l'.length
  · generalize hn : l'.length = n at *
    have HN : Hid _ := hn
    clear hn
    subst el
    go_enter Tryz.func19, Tryz.ntmps19
    go_wp2_with fail
    go_loopw [13] (fun i wr => ∃ k : Nat, k ≤ l.length ∧ i = .int .i64 k ∧ Below w.heap.size w wr ∧ ∀ j, j < k → l[j]? = l'[j]?) (fun i _ => l.length - (intOf i).toNat)
    case atStart => exact ⟨0, Nat.zero_le _, rfl, Below.refl _ _, fun j hj => absurd hj (Nat.not_lt_zero _)⟩
    case round =>
      obtain ⟨k, hk, rfl, hbw, hall⟩ := hrel
      have HW : Hid (Below w.heap.size w wr) := hbw
      have AL : Hid _ := hall
      clear hall
      by_cases hlt : k < l.length
      · obtain ⟨a, rfl⟩ := HA.out.some (by omega)
        obtain ⟨b, rfl⟩ := HB.out.some (by have := HN.out; omega)
        obtain ⟨s, sv, se, _, ⟨sx, sc, sy, sd, rfl, sq⟩, sk⟩ := (HA.out.frK keptF (w' := wr) (fun q hq => hbw.cell (HS.out _ hq))).el k hlt
        have e0 := sk.c0
        have e1 := sk.cp 0 _ rfl
        have e2 := sk.cp 1 _ rfl
        have e3 := sk.cp 2 _ rfl
        have e4 := sk.cp 3 _ rfl
        have e5 := sk.cp 4 _ rfl
        have e6 := sk.cp 5 _ rfl
        have e7 := sk.cp 6 _ rfl
        obtain ⟨t, tv, te, _, ⟨tx, tc, ty, td, rfl, tq⟩, tk⟩ := (HB.out.frK keptF (w' := wr) (fun q hq => hbw.cell (HS.out _ hq))).el k (by have := HN.out; omega)
        have d0 := tk.c0
        have d1 := tk.cp 0 _ rfl
        have d2 := tk.cp 1 _ rfl
        have d3 := tk.cp 2 _ rfl
        have d4 := tk.cp 3 _ rfl
        have d5 := tk.cp 4 _ rfl
        have d6 := tk.cp 5 _ rfl
        have d7 := tk.cp 6 _ rfl
        have ES : Hid (l[k]? = some s) := se
        have ET : Hid (l'[k]? = some t) := te
        have QS : Hid (FlQ S wr s sx sy) := sq
        have QT : Hid (FlQ S wr t tx ty) := tq
        have LT : Hid _ := hlt
        have kl : (k : Int) < l.length := by omega
        clear hbw se te hlt sk tk sq tq
        have za := block_lt_of_cell e0
        have zb := block_lt_of_cell d0
        go_wp2_with fail
        have ca0 : ∀ x : Sub wr, x.w.cell? (a.add (k * 8)) = some (.string s.nm) := fun x => (x.h.cell za).trans e0
        have ca1 : ∀ x : Sub wr, x.w.cell? ⟨(a.add (k * 8)).block, (a.add (k * 8)).off + 1, none⟩ = some (.int .i64 s.wh) := fun x => (x.h.cell (p := ⟨(a.add (k * 8)).block, (a.add (k * 8)).off + 1, none⟩) za).trans e1
        have ca2 : ∀ x : Sub wr, x.w.cell? ⟨(a.add (k * 8)).block, (a.add (k * 8)).off + 2, none⟩ = some (.int .i64 s.ce) := fun x => (x.h.cell (p := ⟨(a.add (k * 8)).block, (a.add (k * 8)).off + 2, none⟩) za).trans e2
        have ca3 : ∀ x : Sub wr, x.w.cell? ⟨(a.add (k * 8)).block, (a.add (k * 8)).off + 3, none⟩ = some (.int .i64 s.ba) := fun x => (x.h.cell (p := ⟨(a.add (k * 8)).block, (a.add (k * 8)).off + 3, none⟩) za).trans e3
        have ca4 : ∀ x : Sub wr, x.w.cell? ⟨(a.add (k * 8)).block, (a.add (k * 8)).off + 4, none⟩ = some (.int .i64 s.rg) := fun x => (x.h.cell (p := ⟨(a.add (k * 8)).block, (a.add (k * 8)).off + 4, none⟩) za).trans e4
        have ca5 : ∀ x : Sub wr, x.w.cell? ⟨(a.add (k * 8)).block, (a.add (k * 8)).off + 5, none⟩ = some (.int .i64 s.sl) := fun x => (x.h.cell (p := ⟨(a.add (k * 8)).block, (a.add (k * 8)).off + 5, none⟩) za).trans e5
        have ca6 : ∀ x : Sub wr, x.w.cell? ⟨(a.add (k * 8)).block, (a.add (k * 8)).off + 6, none⟩ = some (.slice sx s.os.length sc) := fun x => (x.h.cell (p := ⟨(a.add (k * 8)).block, (a.add (k * 8)).off + 6, none⟩) za).trans e6
        have ca7 : ∀ x : Sub wr, x.w.cell? ⟨(a.add (k * 8)).block, (a.add (k * 8)).off + 7, none⟩ = some (.slice sy s.ls.length sd) := fun x => (x.h.cell (p := ⟨(a.add (k * 8)).block, (a.add (k * 8)).off + 7, none⟩) za).trans e7
        have cb0 : ∀ x : Sub wr, x.w.cell? (b.add (k * 8)) = some (.string t.nm) := fun x => (x.h.cell zb).trans d0
        have cb1 : ∀ x : Sub wr, x.w.cell? ⟨(b.add (k * 8)).block, (b.add (k * 8)).off + 1, none⟩ = some (.int .i64 t.wh) := fun x => (x.h.cell (p := ⟨(b.add (k * 8)).block, (b.add (k * 8)).off + 1, none⟩) zb).trans d1
        have cb2 : ∀ x : Sub wr, x.w.cell? ⟨(b.add (k * 8)).block, (b.add (k * 8)).off + 2, none⟩ = some (.int .i64 t.ce) := fun x => (x.h.cell (p := ⟨(b.add (k * 8)).block, (b.add (k * 8)).off + 2, none⟩) zb).trans d2
        have cb3 : ∀ x : Sub wr, x.w.cell? ⟨(b.add (k * 8)).block, (b.add (k * 8)).off + 3, none⟩ = some (.int .i64 t.ba) := fun x => (x.h.cell (p := ⟨(b.add (k * 8)).block, (b.add (k * 8)).off + 3, none⟩) zb).trans d3
        have cb4 : ∀ x : Sub wr, x.w.cell? ⟨(b.add (k * 8)).block, (b.add (k * 8)).off + 4, none⟩ = some (.int .i64 t.rg) := fun x => (x.h.cell (p := ⟨(b.add (k * 8)).block, (b.add (k * 8)).off + 4, none⟩) zb).trans d4
        have cb5 : ∀ x : Sub wr, x.w.cell? ⟨(b.add (k * 8)).block, (b.add (k * 8)).off + 5, none⟩ = some (.int .i64 t.sl) := fun x => (x.h.cell (p := ⟨(b.add (k * 8)).block, (b.add (k * 8)).off + 5, none⟩) zb).trans d5
        have cb6 : ∀ x : Sub wr, x.w.cell? ⟨(b.add (k * 8)).block, (b.add (k * 8)).off + 6, none⟩ = some (.slice tx t.os.length tc) := fun x => (x.h.cell (p := ⟨(b.add (k * 8)).block, (b.add (k * 8)).off + 6, none⟩) zb).trans d6
        have cb7 : ∀ x : Sub wr, x.w.cell? ⟨(b.add (k * 8)).block, (b.add (k * 8)).off + 7, none⟩ = some (.slice ty t.ls.length td) := fun x => (x.h.cell (p := ⟨(b.add (k * 8)).block, (b.add (k * 8)).off + 7, none⟩) zb).trans d7
        have E1 : Hid (∀ y : Sub wr, Calls Tryz.prog 43 #[.agg #[.string s.nm, .int .i64 s.wh, .int .i64 s.ce, .int .i64 s.ba, .int .i64 s.rg, .int .i64 s.sl, .slice sx s.os.length sc, .slice sy s.ls.length sd], .agg #[.string t.nm, .int .i64 t.wh, .int .i64 t.ce, .int .i64 t.ba, .int .i64 t.rg, .int .i64 t.sl, .slice tx t.os.length tc, .slice ty t.ls.length td]] y.w fun e w' => e = .returned (.bool (decide (s = t))) ∧ Below y.w.heap.size y.w w') := fun y => HX.out _ _ _ _ _ _ _ _ _ _ _ (HW.out.trans (y.h.mono HW.out.size)) (QS.out.fr (fun q hq => y.h.cell (Nat.lt_of_lt_of_le (HS.out _ hq) HW.out.size))) (QT.out.fr (fun q hq => y.h.cell (Nat.lt_of_lt_of_le (HS.out _ hq) HW.out.size)))
        generalize hq : decide (s = t) = bq at *
        refine wp_region_sub2 (by kernel_rfl) (by kernel_rfl) ?_
        intro cx
        repeat (first | go_big_quiet_skip | (go_big_quiet_want; go_big_quiet_op; first | go_big_quiet_on | (refine ⟨_, fun _ => rfl, ?_⟩; go_big_quiet_on) | go_big_quiet_call (first | (go_at_call 43; exact calls_sub (E1.out _)))))
        refine wpQuiet_nil ?_
        rintro _ ⟨y, rfl⟩
        have B5 : Hid (Below w.heap.size w y.w) := HW.out.trans (y.h.mono HW.out.size)
        clear cx E1 e0 d0 e1 d1 e2 d2 e3 d3 e4 d4 e5 d5 e6 d6 e7 d7 za zb ca0 ca1 ca2 ca3 ca4 ca5 ca6 ca7 cb0 cb1 cb2 cb3 cb4 cb5 cb6 cb7
        subst hq
        by_cases q : s = t
        · have qq : decide (s = t) = true := decide_eq_true q
          have Q : Hid _ := q
          clear q
          rw [qq]
          have ew : wrap64 ((k : Int) + 1) = (k : Int) + 1 := by have := HA.out.1; have := LT.out; unfold wrap64; omega
          go_wp2
          rw [ew]
          exact ⟨⟨k + 1, Nat.succ_le_of_lt LT.out, rfl, B5.out, fun j hj => by rcases Nat.lt_succ_iff_lt_or_eq.1 hj with h | rfl; exact AL.out j h; rw [ES.out, ET.out, Q.out]⟩, msr LT.out⟩
        · have qq : decide (s = t) = false := decide_eq_false q
          have Q : Hid _ := q
          clear q
          rw [qq]
          have ed : decide (l = l') = false := decide_eq_false fun e => Q.out (by have a := ES.out; rw [e, ET.out] at a; exact (Option.some.inj a).symm)
          clear qq
          go_wp2
          go_ret
          exact ⟨by first | rfl | (rw [ed]; rfl) | rw [ed], B5.out⟩
      · have kl : ¬ (k : Int) < l.length := by omega
        have ed : decide (l = l') = true := decide_eq_true (List.ext_getElem? fun j => by
          by_cases hj : j < k
          · exact AL.out j hj
          · have := HN.out
            rw [List.getElem?_eq_none (by omega), List.getElem?_eq_none (by omega)])
        clear hbw hlt
        go_wp2
        go_ret
        exact ⟨by first | rfl | (rw [ed]; rfl) | rw [ed], HW.out⟩
  · have el' : ((l.length : Int) == (l'.length : Int)) = false := by rw [beq_eq_false_iff_ne]; omega
    have el2 : ((l.length : Int) != (l'.length : Int)) = true := by simp [bne, el']
    have ed : decide (l = l') = false := decide_eq_false fun e => el (by rw [e])
    clear el
    go_enter Tryz.func19, Tryz.ntmps19
    go_wp2
    go_ret
    exact ⟨by first | rfl | (rw [ed]; rfl) | rw [ed], Below.refl _ _⟩
end Go.Proofs.YtkickdmomompjaaGreat
