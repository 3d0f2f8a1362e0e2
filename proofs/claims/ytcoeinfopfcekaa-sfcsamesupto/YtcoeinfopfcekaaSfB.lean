/- slices.EqualFunc over a chart's rows; no statement of the seat is proved here. -/
import Derived.Test.YtcoeinfopfcekaaSfA
namespace Go.Proofs.Ytcoeinfopfcekaa
set_option linter.unusedVariables false
open Go.RowKit
theorem keptIs {α : Type} (cs : α → List Value) : Kept (fun (S : Nat → Prop) (w : World) => Is cs) where
  fr := fun h _ => h
  sub := fun _ h => h
set_option maxRecDepth 20000 in
set_option maxHeartbeats 4000000 in
theorem EqualFLk (F : Nat) (f : LkR → LkR → Bool) (x y : Option Addr) (l l' : List LkR) (c c2 : Nat) (w : World) (ha : RwF 4 ((fun (S : Nat → Prop) (w : World) => Is lkC) (fun b => b < w.heap.size) w) (fun b => b < w.heap.size) w x l) (hb : RwF 4 ((fun (S : Nat → Prop) (w : World) => Is lkC) (fun b => b < w.heap.size) w) (fun b => b < w.heap.size) w y l')
    (hE : ∀ args w, (callFunc F args).run Try.prog w = .ok (.enter F args) w)
    (hF : ∀ W vs vs' e e', Below w.heap.size w W → e ∈ l → (fun (S : Nat → Prop) (w : World) => Is lkC) (fun b => b < w.heap.size) W e vs → (fun (S : Nat → Prop) (w : World) => Is lkC) (fun b => b < w.heap.size) W e' vs' → Calls Try.prog F #[.agg vs.toArray, .agg vs'.toArray] W fun r w' => r = .returned (.bool (f e e')) ∧ Below W.heap.size W w') :
    Calls Try.prog 28 #[.slice x l.length c, .slice y l'.length c2, .func (.func F) #[] #[]] w fun e w' => e = .returned (.bool (smL f l l')) ∧ Below w.heap.size w w' := by
  have HA : Hid (RwF 4 ((fun (S : Nat → Prop) (w : World) => Is lkC) (fun b => b < w.heap.size) w) (fun b => b < w.heap.size) w x l) := ha
  have HB : Hid (RwF 4 ((fun (S : Nat → Prop) (w : World) => Is lkC) (fun b => b < w.heap.size) w) (fun b => b < w.heap.size) w y l') := hb
  have HF : Hid _ := hF
  clear ha hb hF
  by_cases el : l.length = l'.length
  · generalize hn : l'.length = n at *
    have HN : Hid _ := hn
    clear hn
    subst el
    go_enter Try.func28, Try.ntmps28
    go_wp2_with fail
    go_loopw [17] (fun i wr => ∃ k : Nat, k ≤ l.length ∧ i = .int .i64 k ∧ Below w.heap.size w wr ∧ ∀ (j : Nat) e e', j < k → l[j]? = some e → l'[j]? = some e' → f e e' = true) (fun i _ => l.length - (intOf i).toNat)
    case atStart => exact ⟨0, Nat.zero_le _, rfl, Below.refl _ _, fun j _ _ hj => absurd hj (Nat.not_lt_zero _)⟩
    case round =>
      obtain ⟨k, hk, rfl, hbw, hall⟩ := hrel
      have HW : Hid (Below w.heap.size w wr) := hbw
      have AL : Hid _ := hall
      clear hall
      by_cases hlt : k < l.length
      · obtain ⟨a, rfl⟩ := HA.out.some (by omega)
        obtain ⟨b, rfl⟩ := HB.out.some (by have := HN.out; omega)
        obtain ⟨t1, vs1, ee1, hp1, rfl, sk1⟩ := (rw_frK (keptIs lkC) (w' := wr) HA.out (old_fr hbw)).el k hlt
        obtain ⟨t2, vs2, ee2, hp2, rfl, sk2⟩ := (rw_frK (keptIs lkC) (w' := wr) HB.out (old_fr hbw)).el k (by have := HN.out; omega)
        have x0 := sk1.c0
        have x1 := sk1.cp 0 _ rfl
        have x2 := sk1.cp 1 _ rfl
        have x3 := sk1.cp 2 _ rfl
        have y0 := sk2.c0
        have y1 := sk2.cp 0 _ rfl
        have y2 := sk2.cp 1 _ rfl
        have y3 := sk2.cp 2 _ rfl
        have E1 : Hid _ := ee1
        have E2 : Hid _ := ee2
        have V1 : Hid ((fun (S : Nat → Prop) (w : World) => Is lkC) (fun b => b < w.heap.size) wr t1 (lkC t1)) := rfl
        have V2 : Hid ((fun (S : Nat → Prop) (w : World) => Is lkC) (fun b => b < w.heap.size) wr t2 (lkC t2)) := rfl
        have LT : Hid _ := hlt
        have kl : (k : Int) < l.length := by omega
        clear hbw hlt ee1 ee2 hp1 hp2 sk1 sk2
        have za := block_lt_of_cell x0
        have zb := block_lt_of_cell y0
        have GR : Hid (∀ X Y : Obj, Below wr.heap.size wr ((wr.alloc X).alloc Y)) := fun X Y => ((Below.refl _ _).alloc (Nat.le_refl _) _).alloc (by simp) _
        have GF : Hid (∀ X Y : Obj, FrS (fun b => b < w.heap.size) wr ((wr.alloc X).alloc Y)) := fun X Y q hq => (GR.out X Y).cell (Nat.lt_of_lt_of_le hq HW.out.size)
        go_wp2_with fail
        refine (HF.out _ (lkC t1) (lkC t2) t1 t2 (HW.out.trans ((GR.out _ _).mono HW.out.size)) (List.mem_of_getElem? E1.out) rfl rfl).mono ?_
        rintro r w5 ⟨rfl, hb5⟩
        have B5 : Hid (Below w.heap.size w w5) := HW.out.trans (((GR.out _ _).trans (hb5.mono (by simp; omega))).mono HW.out.size)
        clear hb5 x0 x1 x2 x3 y0 y1 y2 y3 za zb GR
        cases q : f t1 t2
        · have ed := smL_bad f l l' k _ _ E1.out E2.out q
          clear q
          go_wp2
          go_ret
          exact ⟨by first | rfl | (rw [ed]; rfl), B5.out⟩
        · have Q : Hid _ := q
          clear q
          have ew : wrap64 ((k : Int) + 1) = (k : Int) + 1 := by have := HA.out.1; have := LT.out; unfold wrap64; omega
          go_wp2
          rw [ew]
          exact ⟨⟨k + 1, Nat.succ_le_of_lt LT.out, rfl, B5.out, fun j e e' hj a b => by
            rcases Nat.lt_succ_iff_lt_or_eq.1 hj with h | rfl
            · exact AL.out j e e' h a b
            · rw [E1.out] at a; rw [E2.out] at b; cases a; cases b; exact Q.out⟩, msr LT.out⟩
      · have kl : ¬ (k : Int) < l.length := by omega
        have ed := smL_all f l l' HN.out.symm fun i e e' a b => AL.out i e e' (by
          apply Classical.byContradiction
          intro q
          rw [List.getElem?_eq_none (by omega)] at a
          cases a) a b
        clear hbw hlt
        go_wp2
        go_ret
        exact ⟨by first | rfl | (rw [ed]; rfl), HW.out⟩
  · have el' : ((l.length : Int) == (l'.length : Int)) = false := by rw [beq_eq_false_iff_ne]; omega
    have el2 : ((l.length : Int) != (l'.length : Int)) = true := by simp [bne, el']
    have ed := smL_len f l l' el
    clear el
    go_enter Try.func28, Try.ntmps28
    go_wp2
    go_ret
    exact ⟨by first | rfl | (rw [ed]; rfl), Below.refl _ _⟩
set_option maxRecDepth 20000 in
set_option maxHeartbeats 4000000 in
theorem EqualFSp (F : Nat) (f : SpR → SpR → Bool) (x y : Option Addr) (l l' : List SpR) (c c2 : Nat) (w : World) (ha : RwF 4 (SpP (fun b => b < w.heap.size) w) (fun b => b < w.heap.size) w x l) (hb : RwF 4 (SpP (fun b => b < w.heap.size) w) (fun b => b < w.heap.size) w y l')
    (hE : ∀ args w, (callFunc F args).run Try.prog w = .ok (.enter F args) w)
    (hF : ∀ W vs vs' e e', Below w.heap.size w W → e ∈ l → SpP (fun b => b < w.heap.size) W e vs → SpP (fun b => b < w.heap.size) W e' vs' → Calls Try.prog F #[.agg vs.toArray, .agg vs'.toArray] W fun r w' => r = .returned (.bool (f e e')) ∧ Below W.heap.size W w') :
    Calls Try.prog 12 #[.slice x l.length c, .slice y l'.length c2, .func (.func F) #[] #[]] w fun e w' => e = .returned (.bool (smL f l l')) ∧ Below w.heap.size w w' := by
  have HA : Hid (RwF 4 (SpP (fun b => b < w.heap.size) w) (fun b => b < w.heap.size) w x l) := ha
  have HB : Hid (RwF 4 (SpP (fun b => b < w.heap.size) w) (fun b => b < w.heap.size) w y l') := hb
  have HF : Hid _ := hF
  clear ha hb hF
  by_cases el : l.length = l'.length
  · generalize hn : l'.length = n at *
    have HN : Hid _ := hn
    clear hn
    subst el
    go_enter Try.func12, Try.ntmps12
    go_wp2_with fail
    go_loopw [17] (fun i wr => ∃ k : Nat, k ≤ l.length ∧ i = .int .i64 k ∧ Below w.heap.size w wr ∧ ∀ (j : Nat) e e', j < k → l[j]? = some e → l'[j]? = some e' → f e e' = true) (fun i _ => l.length - (intOf i).toNat)
    case atStart => exact ⟨0, Nat.zero_le _, rfl, Below.refl _ _, fun j _ _ hj => absurd hj (Nat.not_lt_zero _)⟩
    case round =>
      obtain ⟨k, hk, rfl, hbw, hall⟩ := hrel
      have HW : Hid (Below w.heap.size w wr) := hbw
      have AL : Hid _ := hall
      clear hall
      by_cases hlt : k < l.length
      · obtain ⟨a, rfl⟩ := HA.out.some (by omega)
        obtain ⟨b, rfl⟩ := HB.out.some (by have := HN.out; omega)
        obtain ⟨t1, vs1, ee1, hp1, ⟨p1, q1, rfl, v1⟩, sk1⟩ := (rw_frK keptSp (w' := wr) HA.out (old_fr hbw)).el k hlt
        obtain ⟨t2, vs2, ee2, hp2, ⟨p2, q2, rfl, v2⟩, sk2⟩ := (rw_frK keptSp (w' := wr) HB.out (old_fr hbw)).el k (by have := HN.out; omega)
        have x0 := sk1.c0
        have x1 := sk1.cp 0 _ rfl
        have x2 := sk1.cp 1 _ rfl
        have x3 := sk1.cp 2 _ rfl
        have y0 := sk2.c0
        have y1 := sk2.cp 0 _ rfl
        have y2 := sk2.cp 1 _ rfl
        have y3 := sk2.cp 2 _ rfl
        have E1 : Hid _ := ee1
        have E2 : Hid _ := ee2
        have V1 : Hid (SpP (fun b => b < w.heap.size) wr t1 (spC t1 (.slice p1 t1.ls.length q1))) := ⟨_, _, rfl, v1⟩
        have V2 : Hid (SpP (fun b => b < w.heap.size) wr t2 (spC t2 (.slice p2 t2.ls.length q2))) := ⟨_, _, rfl, v2⟩
        have LT : Hid _ := hlt
        have kl : (k : Int) < l.length := by omega
        clear hbw hlt ee1 ee2 hp1 hp2 sk1 sk2
        have za := block_lt_of_cell x0
        have zb := block_lt_of_cell y0
        have GR : Hid (∀ X Y : Obj, Below wr.heap.size wr ((wr.alloc X).alloc Y)) := fun X Y => ((Below.refl _ _).alloc (Nat.le_refl _) _).alloc (by simp) _
        have GF : Hid (∀ X Y : Obj, FrS (fun b => b < w.heap.size) wr ((wr.alloc X).alloc Y)) := fun X Y q hq => (GR.out X Y).cell (Nat.lt_of_lt_of_le hq HW.out.size)
        go_wp2_with fail
        refine (HF.out _ (spC t1 (.slice p1 t1.ls.length q1)) (spC t2 (.slice p2 t2.ls.length q2)) t1 t2 (HW.out.trans ((GR.out _ _).mono HW.out.size)) (List.mem_of_getElem? E1.out) (keptSp.fr V1.out (GF.out _ _)) (keptSp.fr V2.out (GF.out _ _))).mono ?_
        rintro r w5 ⟨rfl, hb5⟩
        have B5 : Hid (Below w.heap.size w w5) := HW.out.trans (((GR.out _ _).trans (hb5.mono (by simp; omega))).mono HW.out.size)
        clear hb5 x0 x1 x2 x3 y0 y1 y2 y3 za zb GR
        cases q : f t1 t2
        · have ed := smL_bad f l l' k _ _ E1.out E2.out q
          clear q
          go_wp2
          go_ret
          exact ⟨by first | rfl | (rw [ed]; rfl), B5.out⟩
        · have Q : Hid _ := q
          clear q
          have ew : wrap64 ((k : Int) + 1) = (k : Int) + 1 := by have := HA.out.1; have := LT.out; unfold wrap64; omega
          go_wp2
          rw [ew]
          exact ⟨⟨k + 1, Nat.succ_le_of_lt LT.out, rfl, B5.out, fun j e e' hj a b => by
            rcases Nat.lt_succ_iff_lt_or_eq.1 hj with h | rfl
            · exact AL.out j e e' h a b
            · rw [E1.out] at a; rw [E2.out] at b; cases a; cases b; exact Q.out⟩, msr LT.out⟩
      · have kl : ¬ (k : Int) < l.length := by omega
        have ed := smL_all f l l' HN.out.symm fun i e e' a b => AL.out i e e' (by
          apply Classical.byContradiction
          intro q
          rw [List.getElem?_eq_none (by omega)] at a
          cases a) a b
        clear hbw hlt
        go_wp2
        go_ret
        exact ⟨by first | rfl | (rw [ed]; rfl), HW.out⟩
  · have el' : ((l.length : Int) == (l'.length : Int)) = false := by rw [beq_eq_false_iff_ne]; omega
    have el2 : ((l.length : Int) != (l'.length : Int)) = true := by simp [bne, el']
    have ed := smL_len f l l' el
    clear el
    go_enter Try.func12, Try.ntmps12
    go_wp2
    go_ret
    exact ⟨by first | rfl | (rw [ed]; rfl), Below.refl _ _⟩
set_option maxRecDepth 20000 in
set_option maxHeartbeats 4000000 in
theorem EqualFAc (F d : Nat) (f : AcR → AcR → Bool) (x y : Option Addr) (l l' : List AcR) (c c2 : Nat) (w : World) (ha : RwF 3 ((AcP d) (fun b => b < w.heap.size) w) (fun b => b < w.heap.size) w x l) (hb : RwF 3 ((AcP d) (fun b => b < w.heap.size) w) (fun b => b < w.heap.size) w y l')
    (hE : ∀ args w, (callFunc F args).run Try.prog w = .ok (.enter F args) w)
    (hF : ∀ W vs vs' e e', Below w.heap.size w W → e ∈ l → (AcP d) (fun b => b < w.heap.size) W e vs → (AcP d) (fun b => b < w.heap.size) W e' vs' → Calls Try.prog F #[.agg vs.toArray, .agg vs'.toArray] W fun r w' => r = .returned (.bool (f e e')) ∧ Below W.heap.size W w') :
    Calls Try.prog 16 #[.slice x l.length c, .slice y l'.length c2, .func (.func F) #[] #[]] w fun e w' => e = .returned (.bool (smL f l l')) ∧ Below w.heap.size w w' := by
  have HA : Hid (RwF 3 ((AcP d) (fun b => b < w.heap.size) w) (fun b => b < w.heap.size) w x l) := ha
  have HB : Hid (RwF 3 ((AcP d) (fun b => b < w.heap.size) w) (fun b => b < w.heap.size) w y l') := hb
  have HF : Hid _ := hF
  clear ha hb hF
  by_cases el : l.length = l'.length
  · generalize hn : l'.length = n at *
    have HN : Hid _ := hn
    clear hn
    subst el
    go_enter Try.func16, Try.ntmps16
    go_wp2_with fail
    go_loopw [17] (fun i wr => ∃ k : Nat, k ≤ l.length ∧ i = .int .i64 k ∧ Below w.heap.size w wr ∧ ∀ (j : Nat) e e', j < k → l[j]? = some e → l'[j]? = some e' → f e e' = true) (fun i _ => l.length - (intOf i).toNat)
    case atStart => exact ⟨0, Nat.zero_le _, rfl, Below.refl _ _, fun j _ _ hj => absurd hj (Nat.not_lt_zero _)⟩
    case round =>
      obtain ⟨k, hk, rfl, hbw, hall⟩ := hrel
      have HW : Hid (Below w.heap.size w wr) := hbw
      have AL : Hid _ := hall
      clear hall
      by_cases hlt : k < l.length
      · obtain ⟨a, rfl⟩ := HA.out.some (by omega)
        obtain ⟨b, rfl⟩ := HB.out.some (by have := HN.out; omega)
        obtain ⟨t1, vs1, ee1, hp1, ⟨p1, q1, rfl, v1⟩, sk1⟩ := (rw_frK (keptAc d) (w' := wr) HA.out (old_fr hbw)).el k hlt
        obtain ⟨t2, vs2, ee2, hp2, ⟨p2, q2, rfl, v2⟩, sk2⟩ := (rw_frK (keptAc d) (w' := wr) HB.out (old_fr hbw)).el k (by have := HN.out; omega)
        have x0 := sk1.c0
        have x1 := sk1.cp 0 _ rfl
        have x2 := sk1.cp 1 _ rfl
        have y0 := sk2.c0
        have y1 := sk2.cp 0 _ rfl
        have y2 := sk2.cp 1 _ rfl
        have E1 : Hid _ := ee1
        have E2 : Hid _ := ee2
        have V1 : Hid ((AcP d) (fun b => b < w.heap.size) wr t1 (acC t1 (.slice p1 t1.bd.length q1))) := ⟨_, _, rfl, v1⟩
        have V2 : Hid ((AcP d) (fun b => b < w.heap.size) wr t2 (acC t2 (.slice p2 t2.bd.length q2))) := ⟨_, _, rfl, v2⟩
        have LT : Hid _ := hlt
        have kl : (k : Int) < l.length := by omega
        clear hbw hlt ee1 ee2 hp1 hp2 sk1 sk2
        have za := block_lt_of_cell x0
        have zb := block_lt_of_cell y0
        have GR : Hid (∀ X Y : Obj, Below wr.heap.size wr ((wr.alloc X).alloc Y)) := fun X Y => ((Below.refl _ _).alloc (Nat.le_refl _) _).alloc (by simp) _
        have GF : Hid (∀ X Y : Obj, FrS (fun b => b < w.heap.size) wr ((wr.alloc X).alloc Y)) := fun X Y q hq => (GR.out X Y).cell (Nat.lt_of_lt_of_le hq HW.out.size)
        go_wp2_with fail
        refine (HF.out _ (acC t1 (.slice p1 t1.bd.length q1)) (acC t2 (.slice p2 t2.bd.length q2)) t1 t2 (HW.out.trans ((GR.out _ _).mono HW.out.size)) (List.mem_of_getElem? E1.out) ((keptAc d).fr V1.out (GF.out _ _)) ((keptAc d).fr V2.out (GF.out _ _))).mono ?_
        rintro r w5 ⟨rfl, hb5⟩
        have B5 : Hid (Below w.heap.size w w5) := HW.out.trans (((GR.out _ _).trans (hb5.mono (by simp; omega))).mono HW.out.size)
        clear hb5 x0 x1 x2 y0 y1 y2 za zb GR
        cases q : f t1 t2
        · have ed := smL_bad f l l' k _ _ E1.out E2.out q
          clear q
          go_wp2
          go_ret
          exact ⟨by first | rfl | (rw [ed]; rfl), B5.out⟩
        · have Q : Hid _ := q
          clear q
          have ew : wrap64 ((k : Int) + 1) = (k : Int) + 1 := by have := HA.out.1; have := LT.out; unfold wrap64; omega
          go_wp2
          rw [ew]
          exact ⟨⟨k + 1, Nat.succ_le_of_lt LT.out, rfl, B5.out, fun j e e' hj a b => by
            rcases Nat.lt_succ_iff_lt_or_eq.1 hj with h | rfl
            · exact AL.out j e e' h a b
            · rw [E1.out] at a; rw [E2.out] at b; cases a; cases b; exact Q.out⟩, msr LT.out⟩
      · have kl : ¬ (k : Int) < l.length := by omega
        have ed := smL_all f l l' HN.out.symm fun i e e' a b => AL.out i e e' (by
          apply Classical.byContradiction
          intro q
          rw [List.getElem?_eq_none (by omega)] at a
          cases a) a b
        clear hbw hlt
        go_wp2
        go_ret
        exact ⟨by first | rfl | (rw [ed]; rfl), HW.out⟩
  · have el' : ((l.length : Int) == (l'.length : Int)) = false := by rw [beq_eq_false_iff_ne]; omega
    have el2 : ((l.length : Int) != (l'.length : Int)) = true := by simp [bne, el']
    have ed := smL_len f l l' el
    clear el
    go_enter Try.func16, Try.ntmps16
    go_wp2
    go_ret
    exact ⟨by first | rfl | (rw [ed]; rfl), Below.refl _ _⟩
end Go.Proofs.Ytcoeinfopfcekaa
