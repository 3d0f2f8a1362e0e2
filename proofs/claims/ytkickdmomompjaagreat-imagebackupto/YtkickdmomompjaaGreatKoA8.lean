/- image: what a reader makes of an image's bytes; no statement of the seat is proved here. -/
import Derived.Test.YtkickdmomompjaaGreatKoA7
import Derived.Test.YtkickdmomompjaaGreatKoA3
namespace Go.Proofs.YtkickdmomompjaaGreat
set_option linter.unusedVariables false
open Go.RowKit
theorem up_sub' {a b a2 b2 : Nat} (h1 : a2 ≤ a) (h2 : b ≤ b2) : ∀ k, Fresh a b k → Fresh a2 b2 k := fun k h => ⟨Nat.le_trans h1 h.1, Nat.lt_of_lt_of_le h.2 h2⟩
theorem ob_ne {u : Value} {a b g : Nat} (h : ∀ k, u.ownBlock = some k → a ≤ k ∧ k < b) (hg : g < a) : u.ownBlock = none ∨ u.ownBlock ≠ some g := Or.inr fun q => by have := (h g q).1; omega
theorem gb_own {a b c : World} {g : Nat} {r : Option Nat} (h : a.grownBy b (some g)) (k : b.grownBy c r) (hr : ∀ i, r = some i → a.heap.size ≤ i) : a.grownBy c (some g) :=
  ⟨k.os.trans h.os, k.tape.trans h.tape, k.output.trans h.output, Nat.le_trans h.size k.size, fun i hi hn => (k.block i (Nat.lt_of_lt_of_le hi h.size) (fun q => by have := hr i q.symm; omega)).trans (h.block i hi hn)⟩
theorem Rd.grown {g kb o c : Nat} {bs : List Nat} {s : RS} {V W : World} {r : Option Nat} (h : Rd g kb o c bs s V) (hg : V.grownBy W r) (h1 : r ≠ some g) (h2 : r ≠ some kb) : Rd g kb o c bs s W :=
  ⟨by have := h.at_; unfold RdAt at *; rw [hg.block g h.lt (fun q => h1 q.symm)]; exact this, fun j v hj => hg.cell (h.by_ j v hj) (fun q => h2 q.symm), h.le, h.n4, h.nc, h.ne, Nat.lt_of_lt_of_le h.kl hg.size, h.b8⟩
theorem keptI {α : Type} (cs : α → List Value) : Kept (fun (S : Nat → Prop) (w : World) => Is cs) where
  fr := fun h _ => h
  sub := fun _ h => h
theorem infRlN : ∃ i z, Tryz.prog.info? 3 = some i ∧ i.zero = some z ∧ i.size = 1 ∧ i.bytes = 8 ∧ z.cells.size = 1 := by
  obtain ⟨i, hi, hz⟩ := Option.map_eq_some_iff.1 (show (Tryz.prog.info? 3).map (fun i => (i.zero.map (·.cells.size), i.size, i.bytes)) = some (some 1, 1, 8) by kernel_rfl)
  simp only [Prod.mk.injEq] at hz
  obtain ⟨z, h1, h2⟩ := Option.map_eq_some_iff.1 hz.1
  exact ⟨i, z, hi, h1, hz.2.1, hz.2.2, h2⟩
set_option maxRecDepth 20000 in
set_option maxHeartbeats 8000000 in
theorem RlN (g kb o c : Nat) (bs : List Nat) (rd : RS → Int × RS)
    (hE : ∀ (s : RS) (W : World), Rd g kb o c bs s W → Calls Tryz.prog 88 #[.pointer (some ⟨g, 0, none⟩)] W fun e w' => e = .returned (.int .i64 (rd s).1) ∧ Rd g kb o c bs (rd s).2 w' ∧ W.grownBy w' (some g))
    (s : RS) (w : World) (h : Rd g kb o c bs s w) :
    Calls Tryz.prog 94 #[.pointer (some ⟨g, 0, none⟩), .func (.func 88) #[.pointer (some ⟨g, 0, none⟩)] #[]] w fun e w' => (∃ y k, e = .returned (.slice y (rdL rd bs s).1.length k) ∧ RwF 1 ((fun S w => Is inC) (Fresh w.heap.size w'.heap.size) w') (Fresh w.heap.size w'.heap.size) w' y (rdL rd bs s).1) ∧ Rd g kb o c bs (rdL rd bs s).2 w' ∧ w.grownBy w' (some g) := by
  have CT : Hid (Calls Tryz.prog 84 #[.pointer (some ⟨g, 0, none⟩)] w fun e w' => e = .returned (.int .i64 (rdC bs s).1) ∧ Rd g kb o c bs (rdC bs s).2 w' ∧ w.grownBy w' (some g)) := cntM g kb o c bs s w h
  have OK : Hid ((rdC bs s).2.y = 0 → 0 ≤ (rdC bs s).1 ∧ (rdC bs s).1.toNat ≤ 4194304) := fun q => by have := rdC_ok q; have := h.n4; omega
  have GL : Hid (g < w.heap.size) := h.lt
  have HE : Hid _ := hE
  show Calls _ _ _ _ fun e w' => (∃ y k, e = .returned (.slice y (rdKL rd (rdC bs s).1.toNat (rdC bs s).2).length k) ∧ RwF 1 ((fun S w => Is inC) (Fresh w.heap.size w'.heap.size) w') (Fresh w.heap.size w'.heap.size) w' y (rdKL rd (rdC bs s).1.toNat (rdC bs s).2)) ∧ Rd g kb o c bs (rdKS rd (rdC bs s).1.toNat (rdC bs s).2) w' ∧ w.grownBy w' (some g)
  generalize (rdC bs s).1 = N at *
  generalize (rdC bs s).2 = s1 at *
  clear h hE
  go_enter Tryz.func94, Tryz.ntmps94
  go_upto_region 2 with fail
  go_wp2_with (go_at_call 84; refine (CT.out).mono ?_)
  first | (rintro e w1 ⟨he, h1, g1⟩; have he' := he) | (rintro e w1 he h1 g1)
  subst he
  have R1 : Hid (Rd g kb o c bs s1 w1) := h1
  have G1 : Hid (w.grownBy w1 (some g)) := g1
  have GB : Hid (g < w1.heap.size) := h1.lt
  clear h1 g1
  go_wp2
  go_loopw [5, 8] (fun v i wr => ∃ (k : Nat) (t : RS), i = .int .i64 k ∧ LsI rd N.toNat s1 k t ∧ MkI 3 1 (fun S w => Is inC) w1.heap.size (rdKL rd N.toNat s1) k v wr ∧ Rd g kb o c bs t wr ∧ w1.grownBy wr (some g)) (fun _ i _ => N.toNat - (intOf i).toNat)
  case atStart => exact ⟨0, s1, rfl, LsI.zero, MkI.zero _ _ _ _ _ _, R1.out, gb_refl _ _⟩
  case round =>
    obtain ⟨k, t, rfl, hL, hM, hR, hG⟩ := hrel
    have LI : Hid (LsI rd N.toNat s1 k t) := hL
    have MI : Hid (MkI 3 1 (fun S w => Is inC) w1.heap.size (rdKL rd N.toNat s1) k u5 wr) := hM
    have RI : Hid (Rd g kb o c bs t wr) := hR
    have GI : Hid (w1.grownBy wr (some g)) := hG
    have fin : Hid (k = N.toNat ∨ t.y ≠ 0 → (∃ y c2, u5 = .slice y (rdKL rd N.toNat s1).length c2 ∧ RwF 1 ((fun S w => Is inC) (Fresh w.heap.size wr.heap.size) wr) (Fresh w.heap.size wr.heap.size) wr y (rdKL rd N.toNat s1)) ∧ Rd g kb o c bs (rdKS rd N.toNat s1) wr ∧ w.grownBy wr (some g)) := fun q => by
      obtain ⟨e1, e2⟩ := hL.last q
      rw [e2]
      have fe : few (rdKL rd N.toNat s1).length := by
        have := rdKL_len rd N.toNat s1
        by_cases z : s1.y = 0
        · have := OK.out z; show _ < _; omega
        · rw [rdKL_bad rd _ z]; show 0 < _; omega
      have hM2 := hM
      rw [← e1] at hM2
      obtain ⟨y, c2, ey, hy⟩ := hM2.done (keptI _) fe
      exact ⟨⟨y, c2, ey, (hy.subK (keptI _) (up_sub' G1.out.size (Nat.le_refl _)))⟩, hR, gb_trans G1.out hG⟩
    clear hL hM hR hG
    by_cases hlt : (k : Int) < N
    · by_cases hy : t.y = 0
      · have HB : Hid (Calls Tryz.prog 76 #[.pointer (some ⟨g, 0, none⟩)] wr fun e w' => e = .returned (.bool false) ∧ w' = wr) := by
          have q := failedX g _ _ _ _ _ _ wr RI.out.at_
          rw [hy] at q
          exact q
        have NX : Hid (LsI rd N.toNat s1 (k + 1) (rd t).2) := LI.out.next (by omega) hy
        have GE : Hid ((rdKL rd N.toNat s1)[k]? = some (rd t).1) := LI.out.get (by omega) hy
        have LE : Hid (k + 1 ≤ 4194304) := by have := OK.out (LI.out.ok hy); show _ ≤ _; omega
        have LT : Hid ((k : Int) < N) := hlt
        clear hy fin LI
        go_wp2_with (go_at_call 76; refine (HB.out).mono ?_)
        try (first | (rintro e w2 ⟨he, hw⟩; have he' := he; subst he; rw [hw]; clear hw w2) | (rintro e w2 he hw; subst he; rw [hw]; clear hw w2))
        go_wp2_with fail
        refine (HE.out t wr RI.out).mono ?_
        first | (rintro e w5 ⟨he, h5, g5⟩; have he' := he) | (rintro e w5 he h5 g5)
        subst he
        have R5 : Hid (Rd g kb o c bs (rd t).2 w5) := h5
        have G5 : Hid (wr.grownBy w5 (some g)) := g5
        clear h5 g5 RI HE HB
        generalize (rd t).1 = ee at *
        generalize (rd t).2 = t2 at *
        obtain ⟨vss, ehs, hvn, how, hev⟩ := MI.out
        have EHS : Hid (vss.length = k) := ehs
        have HVN : Hid (∀ v ∈ vss, v.length = 1) := hvn
        have OW : Hid (wr.ownsRow w1.heap.size 3 1 u5 k vss.flatten) := how
        have EV : Hid _ := hev
        clear ehs hvn how hev MI
        have ew : wrap64 ((k : Int) + 1) = (k : Int) + 1 := by have := LE.out; unfold wrap64; omega
        have OW5 : Hid (∀ X : Obj, (w5.alloc X).ownsRow w1.heap.size 3 1 u5 k vss.flatten) := fun X => (OW.out.kept G5.out (ob_ne OW.out.lt GB.out)).alloc X
        have NW : Hid (∀ j u, (inC ee)[j]? = some u → (w5.alloc (.cells (inC ee).toArray 3)).cell? ((⟨w5.heap.size, 0, none⟩ : Addr).add j) = some u) := fun j u h => mk_cells w5 _ _ j u h
        have BZ : Hid (∀ X : Obj, w1.heap.size ≤ (w5.alloc X).heap.size) := fun X => by have := GI.out.size; have := G5.out.size; simp; omega
        have I : Hid _ := infRlN
        go_wp2_with (at_builtin; obtain ⟨i, z, hi, hz, hs', hy, hzc⟩ := I.out; refine wpList_append_own_at _ rfl _ _ 59 rfl w1.heap.size 3 i z 1 8 Tryz.underlying59 hi hz hs' hy hzc (by decide) u5 k vss.flatten rfl (OW5.out _) ⟨w5.heap.size, 0, none⟩ 1 1 (inC ee) rfl rfl NW.out (by intro u hu; simp at hu; subst hu; rfl) (by have := LE.out; simp [maxLen]; omega) (by have := LE.out; omega) (BZ.out _) ?_; intro v' w7 q1 q2 q3 q4; have Q1 : Hid _ := q1; have Q2 : Hid _ := q2; have Q4 : Hid _ := q4; clear q1 q2 q3 q4 hi hz hs' hy hzc)
        rw [ew]
        have B5 : wr.grownBy (w5.alloc (.cells (inC ee).toArray 3)) (some g) := gb_trans G5.out (gb_alloc _ _ _)
        have hob : ∀ i, u5.ownBlock = some i → w1.heap.size ≤ i := fun i hi => (OW.out.lt i hi).1
        refine ⟨⟨k + 1, t2, rfl, NX.out, MkI.stepG (keptI _) GB.out EHS.out HVN.out EV.out OW.out.lt _ _ GE.out rfl GI.out.size B5 rfl Q2.out Q1.out Q4.out, ?_, ?_⟩, ?_⟩
        · exact (R5.out.al _).grown Q2.out (fun q => by have := hob _ q; have := GB.out; omega) (fun q => by have := hob _ q; have := R1.out.kl; omega)
        · exact gb_own (gb_trans GI.out B5) Q2.out hob
        · have := LT.out
          show N.toNat - ((k : Int) + 1).toNat < N.toNat - (k : Int).toNat
          omega
      · have HB : Hid (Calls Tryz.prog 76 #[.pointer (some ⟨g, 0, none⟩)] wr fun e w' => e = .returned (.bool true) ∧ w' = wr) := by
          have q := failedX g _ _ _ _ _ _ wr RI.out.at_
          rw [show (t.y != 0) = true by simp [hy]] at q
          exact q
        obtain ⟨⟨y, c2, ev, hy2⟩, hr2, hg2⟩ := fin.out (Or.inr hy)
        subst ev
        have Y2 : Hid _ := hy2
        have R2 : Hid _ := hr2
        have G2 : Hid _ := hg2
        clear hy hy2 hr2 hg2 fin LI MI RI GI
        go_wp2_with (go_at_call 76; refine (HB.out).mono ?_)
        try (first | (rintro e w2 ⟨he, hw⟩; have he' := he; subst he; rw [hw]; clear hw w2) | (rintro e w2 he hw; subst he; rw [hw]; clear hw w2))
        go_wp2
        go_ret
        first | exact ⟨⟨y, ⟨c2, rfl⟩, Y2.out⟩, R2.out, G2.out⟩ | exact ⟨⟨y, c2, rfl, Y2.out⟩, R2.out, G2.out⟩
    · obtain ⟨⟨y, c2, ev, hy2⟩, hr2, hg2⟩ := fin.out (Or.inl (by have := LI.out.1; omega))
      subst ev
      have Y2 : Hid _ := hy2
      have R2 : Hid _ := hr2
      have G2 : Hid _ := hg2
      clear hy2 hr2 hg2 fin LI MI RI GI
      go_wp2
      go_ret
      first | exact ⟨⟨y, ⟨c2, rfl⟩, Y2.out⟩, R2.out, G2.out⟩ | exact ⟨⟨y, c2, rfl, Y2.out⟩, R2.out, G2.out⟩
theorem infRlL : ∃ i z, Tryz.prog.info? 103 = some i ∧ i.zero = some z ∧ i.size = 3 ∧ i.bytes = 24 ∧ z.cells.size = 3 := by
  obtain ⟨i, hi, hz⟩ := Option.map_eq_some_iff.1 (show (Tryz.prog.info? 103).map (fun i => (i.zero.map (·.cells.size), i.size, i.bytes)) = some (some 3, 3, 24) by kernel_rfl)
  simp only [Prod.mk.injEq] at hz
  obtain ⟨z, h1, h2⟩ := Option.map_eq_some_iff.1 hz.1
  exact ⟨i, z, hi, h1, hz.2.1, hz.2.2, h2⟩
set_option maxRecDepth 20000 in
set_option maxHeartbeats 8000000 in
theorem RlL (g kb o c : Nat) (bs : List Nat) (rd : RS → LpR × RS)
    (hE : ∀ (s : RS) (W : World), Rd g kb o c bs s W → Calls Tryz.prog 93 #[.pointer (some ⟨g, 0, none⟩)] W fun e w' => e = .returned (.agg #[.int .i64 (rd s).1.hd, .int .i64 (rd s).1.en, .int .i64 (rd s).1.tm]) ∧ Rd g kb o c bs (rd s).2 w' ∧ W.grownBy w' (some g))
    (s : RS) (w : World) (h : Rd g kb o c bs s w) :
    Calls Tryz.prog 92 #[.pointer (some ⟨g, 0, none⟩), .func (.func 93) #[.pointer (some ⟨g, 0, none⟩)] #[]] w fun e w' => (∃ y k, e = .returned (.slice y (rdL rd bs s).1.length k) ∧ RwF 3 ((fun S w => Is lpC) (Fresh w.heap.size w'.heap.size) w') (Fresh w.heap.size w'.heap.size) w' y (rdL rd bs s).1) ∧ Rd g kb o c bs (rdL rd bs s).2 w' ∧ w.grownBy w' (some g) := by
  have CT : Hid (Calls Tryz.prog 84 #[.pointer (some ⟨g, 0, none⟩)] w fun e w' => e = .returned (.int .i64 (rdC bs s).1) ∧ Rd g kb o c bs (rdC bs s).2 w' ∧ w.grownBy w' (some g)) := cntM g kb o c bs s w h
  have OK : Hid ((rdC bs s).2.y = 0 → 0 ≤ (rdC bs s).1 ∧ (rdC bs s).1.toNat ≤ 4194304) := fun q => by have := rdC_ok q; have := h.n4; omega
  have GL : Hid (g < w.heap.size) := h.lt
  have HE : Hid _ := hE
  show Calls _ _ _ _ fun e w' => (∃ y k, e = .returned (.slice y (rdKL rd (rdC bs s).1.toNat (rdC bs s).2).length k) ∧ RwF 3 ((fun S w => Is lpC) (Fresh w.heap.size w'.heap.size) w') (Fresh w.heap.size w'.heap.size) w' y (rdKL rd (rdC bs s).1.toNat (rdC bs s).2)) ∧ Rd g kb o c bs (rdKS rd (rdC bs s).1.toNat (rdC bs s).2) w' ∧ w.grownBy w' (some g)
  generalize (rdC bs s).1 = N at *
  generalize (rdC bs s).2 = s1 at *
  clear h hE
  go_enter Tryz.func92, Tryz.ntmps92
  go_upto_region 2 with fail
  go_wp2_with (go_at_call 84; refine (CT.out).mono ?_)
  first | (rintro e w1 ⟨he, h1, g1⟩; have he' := he) | (rintro e w1 he h1 g1)
  subst he
  have R1 : Hid (Rd g kb o c bs s1 w1) := h1
  have G1 : Hid (w.grownBy w1 (some g)) := g1
  have GB : Hid (g < w1.heap.size) := h1.lt
  clear h1 g1
  go_wp2
  go_loopw [5, 8] (fun v i wr => ∃ (k : Nat) (t : RS), i = .int .i64 k ∧ LsI rd N.toNat s1 k t ∧ MkI 103 3 (fun S w => Is lpC) w1.heap.size (rdKL rd N.toNat s1) k v wr ∧ Rd g kb o c bs t wr ∧ w1.grownBy wr (some g)) (fun _ i _ => N.toNat - (intOf i).toNat)
  case atStart => exact ⟨0, s1, rfl, LsI.zero, MkI.zero _ _ _ _ _ _, R1.out, gb_refl _ _⟩
  case round =>
    obtain ⟨k, t, rfl, hL, hM, hR, hG⟩ := hrel
    have LI : Hid (LsI rd N.toNat s1 k t) := hL
    have MI : Hid (MkI 103 3 (fun S w => Is lpC) w1.heap.size (rdKL rd N.toNat s1) k u5 wr) := hM
    have RI : Hid (Rd g kb o c bs t wr) := hR
    have GI : Hid (w1.grownBy wr (some g)) := hG
    have fin : Hid (k = N.toNat ∨ t.y ≠ 0 → (∃ y c2, u5 = .slice y (rdKL rd N.toNat s1).length c2 ∧ RwF 3 ((fun S w => Is lpC) (Fresh w.heap.size wr.heap.size) wr) (Fresh w.heap.size wr.heap.size) wr y (rdKL rd N.toNat s1)) ∧ Rd g kb o c bs (rdKS rd N.toNat s1) wr ∧ w.grownBy wr (some g)) := fun q => by
      obtain ⟨e1, e2⟩ := hL.last q
      rw [e2]
      have fe : few (rdKL rd N.toNat s1).length := by
        have := rdKL_len rd N.toNat s1
        by_cases z : s1.y = 0
        · have := OK.out z; show _ < _; omega
        · rw [rdKL_bad rd _ z]; show 0 < _; omega
      have hM2 := hM
      rw [← e1] at hM2
      obtain ⟨y, c2, ey, hy⟩ := hM2.done (keptI _) fe
      exact ⟨⟨y, c2, ey, (hy.subK (keptI _) (up_sub' G1.out.size (Nat.le_refl _)))⟩, hR, gb_trans G1.out hG⟩
    clear hL hM hR hG
    by_cases hlt : (k : Int) < N
    · by_cases hy : t.y = 0
      · have HB : Hid (Calls Tryz.prog 76 #[.pointer (some ⟨g, 0, none⟩)] wr fun e w' => e = .returned (.bool false) ∧ w' = wr) := by
          have q := failedX g _ _ _ _ _ _ wr RI.out.at_
          rw [hy] at q
          exact q
        have NX : Hid (LsI rd N.toNat s1 (k + 1) (rd t).2) := LI.out.next (by omega) hy
        have GE : Hid ((rdKL rd N.toNat s1)[k]? = some (rd t).1) := LI.out.get (by omega) hy
        have LE : Hid (k + 1 ≤ 4194304) := by have := OK.out (LI.out.ok hy); show _ ≤ _; omega
        have LT : Hid ((k : Int) < N) := hlt
        clear hy fin LI
        go_wp2_with (go_at_call 76; refine (HB.out).mono ?_)
        try (first | (rintro e w2 ⟨he, hw⟩; have he' := he; subst he; rw [hw]; clear hw w2) | (rintro e w2 he hw; subst he; rw [hw]; clear hw w2))
        go_wp2_with fail
        refine (HE.out t wr RI.out).mono ?_
        first | (rintro e w5 ⟨he, h5, g5⟩; have he' := he) | (rintro e w5 he h5 g5)
        subst he
        have R5 : Hid (Rd g kb o c bs (rd t).2 w5) := h5
        have G5 : Hid (wr.grownBy w5 (some g)) := g5
        clear h5 g5 RI HE HB
        generalize (rd t).1 = ee at *
        generalize (rd t).2 = t2 at *
        obtain ⟨vss, ehs, hvn, how, hev⟩ := MI.out
        have EHS : Hid (vss.length = k) := ehs
        have HVN : Hid (∀ v ∈ vss, v.length = 3) := hvn
        have OW : Hid (wr.ownsRow w1.heap.size 103 3 u5 k vss.flatten) := how
        have EV : Hid _ := hev
        clear ehs hvn how hev MI
        have ew : wrap64 ((k : Int) + 1) = (k : Int) + 1 := by have := LE.out; unfold wrap64; omega
        have OW5 : Hid (∀ X : Obj, (w5.alloc X).ownsRow w1.heap.size 103 3 u5 k vss.flatten) := fun X => (OW.out.kept G5.out (ob_ne OW.out.lt GB.out)).alloc X
        have NW : Hid (∀ j u, (lpC ee)[j]? = some u → (w5.alloc (.cells (lpC ee).toArray 103)).cell? ((⟨w5.heap.size, 0, none⟩ : Addr).add j) = some u) := fun j u h => mk_cells w5 _ _ j u h
        have BZ : Hid (∀ X : Obj, w1.heap.size ≤ (w5.alloc X).heap.size) := fun X => by have := GI.out.size; have := G5.out.size; simp; omega
        have I : Hid _ := infRlL
        go_wp2_with (at_builtin; obtain ⟨i, z, hi, hz, hs', hy, hzc⟩ := I.out; refine wpList_append_own_at _ rfl _ _ 64 rfl w1.heap.size 103 i z 3 24 Tryz.underlying64 hi hz hs' hy hzc (by decide) u5 k vss.flatten rfl (OW5.out _) ⟨w5.heap.size, 0, none⟩ 1 1 (lpC ee) rfl rfl NW.out (by intro u hu; simp at hu; rcases hu with h | h | h <;> subst h <;> rfl) (by have := LE.out; simp [maxLen]; omega) (by have := LE.out; omega) (BZ.out _) ?_; intro v' w7 q1 q2 q3 q4; have Q1 : Hid _ := q1; have Q2 : Hid _ := q2; have Q4 : Hid _ := q4; clear q1 q2 q3 q4 hi hz hs' hy hzc)
        rw [ew]
        have B5 : wr.grownBy (w5.alloc (.cells (lpC ee).toArray 103)) (some g) := gb_trans G5.out (gb_alloc _ _ _)
        have hob : ∀ i, u5.ownBlock = some i → w1.heap.size ≤ i := fun i hi => (OW.out.lt i hi).1
        refine ⟨⟨k + 1, t2, rfl, NX.out, MkI.stepG (keptI _) GB.out EHS.out HVN.out EV.out OW.out.lt _ _ GE.out rfl GI.out.size B5 rfl Q2.out Q1.out Q4.out, ?_, ?_⟩, ?_⟩
        · exact (R5.out.al _).grown Q2.out (fun q => by have := hob _ q; have := GB.out; omega) (fun q => by have := hob _ q; have := R1.out.kl; omega)
        · exact gb_own (gb_trans GI.out B5) Q2.out hob
        · have := LT.out
          show N.toNat - ((k : Int) + 1).toNat < N.toNat - (k : Int).toNat
          omega
      · have HB : Hid (Calls Tryz.prog 76 #[.pointer (some ⟨g, 0, none⟩)] wr fun e w' => e = .returned (.bool true) ∧ w' = wr) := by
          have q := failedX g _ _ _ _ _ _ wr RI.out.at_
          rw [show (t.y != 0) = true by simp [hy]] at q
          exact q
        obtain ⟨⟨y, c2, ev, hy2⟩, hr2, hg2⟩ := fin.out (Or.inr hy)
        subst ev
        have Y2 : Hid _ := hy2
        have R2 : Hid _ := hr2
        have G2 : Hid _ := hg2
        clear hy hy2 hr2 hg2 fin LI MI RI GI
        go_wp2_with (go_at_call 76; refine (HB.out).mono ?_)
        try (first | (rintro e w2 ⟨he, hw⟩; have he' := he; subst he; rw [hw]; clear hw w2) | (rintro e w2 he hw; subst he; rw [hw]; clear hw w2))
        go_wp2
        go_ret
        first | exact ⟨⟨y, ⟨c2, rfl⟩, Y2.out⟩, R2.out, G2.out⟩ | exact ⟨⟨y, c2, rfl, Y2.out⟩, R2.out, G2.out⟩
    · obtain ⟨⟨y, c2, ev, hy2⟩, hr2, hg2⟩ := fin.out (Or.inl (by have := LI.out.1; omega))
      subst ev
      have Y2 : Hid _ := hy2
      have R2 : Hid _ := hr2
      have G2 : Hid _ := hg2
      clear hy2 hr2 hg2 fin LI MI RI GI
      go_wp2
      go_ret
      first | exact ⟨⟨y, ⟨c2, rfl⟩, Y2.out⟩, R2.out, G2.out⟩ | exact ⟨⟨y, c2, rfl, Y2.out⟩, R2.out, G2.out⟩
theorem infRlO : ∃ i z, Tryz.prog.info? 88 = some i ∧ i.zero = some z ∧ i.size = 10 ∧ i.bytes = 88 ∧ z.cells.size = 10 := by
  obtain ⟨i, hi, hz⟩ := Option.map_eq_some_iff.1 (show (Tryz.prog.info? 88).map (fun i => (i.zero.map (·.cells.size), i.size, i.bytes)) = some (some 10, 10, 88) by kernel_rfl)
  simp only [Prod.mk.injEq] at hz
  obtain ⟨z, h1, h2⟩ := Option.map_eq_some_iff.1 hz.1
  exact ⟨i, z, hi, h1, hz.2.1, hz.2.2, h2⟩
set_option maxRecDepth 20000 in
set_option maxHeartbeats 8000000 in
theorem RlO (g kb o c : Nat) (bs : List Nat) (rd : RS → OpR × RS)
    (hE : ∀ (s : RS) (W : World), Rd g kb o c bs s W → Calls Tryz.prog 91 #[.pointer (some ⟨g, 0, none⟩)] W fun e w' => e = .returned (.agg #[.int .i64 (rd s).1.cd, .int .i64 (rd s).1.a, .int .i64 (rd s).1.b, .int .i64 (rd s).1.c, .int .i64 (rd s).1.d, .int .i64 (rd s).1.lo, .int .i64 (rd s).1.hi, .int .u8 (rd s).1.vk, .int .u64 (rd s).1.vb, .string (rd s).1.vs]) ∧ Rd g kb o c bs (rd s).2 w' ∧ W.grownBy w' (some g))
    (s : RS) (w : World) (h : Rd g kb o c bs s w) :
    Calls Tryz.prog 90 #[.pointer (some ⟨g, 0, none⟩), .func (.func 91) #[.pointer (some ⟨g, 0, none⟩)] #[]] w fun e w' => (∃ y k, e = .returned (.slice y (rdL rd bs s).1.length k) ∧ RwF 10 ((fun S w => Is opC) (Fresh w.heap.size w'.heap.size) w') (Fresh w.heap.size w'.heap.size) w' y (rdL rd bs s).1) ∧ Rd g kb o c bs (rdL rd bs s).2 w' ∧ w.grownBy w' (some g) := by
  have CT : Hid (Calls Tryz.prog 84 #[.pointer (some ⟨g, 0, none⟩)] w fun e w' => e = .returned (.int .i64 (rdC bs s).1) ∧ Rd g kb o c bs (rdC bs s).2 w' ∧ w.grownBy w' (some g)) := cntM g kb o c bs s w h
  have OK : Hid ((rdC bs s).2.y = 0 → 0 ≤ (rdC bs s).1 ∧ (rdC bs s).1.toNat ≤ 4194304) := fun q => by have := rdC_ok q; have := h.n4; omega
  have GL : Hid (g < w.heap.size) := h.lt
  have HE : Hid _ := hE
  show Calls _ _ _ _ fun e w' => (∃ y k, e = .returned (.slice y (rdKL rd (rdC bs s).1.toNat (rdC bs s).2).length k) ∧ RwF 10 ((fun S w => Is opC) (Fresh w.heap.size w'.heap.size) w') (Fresh w.heap.size w'.heap.size) w' y (rdKL rd (rdC bs s).1.toNat (rdC bs s).2)) ∧ Rd g kb o c bs (rdKS rd (rdC bs s).1.toNat (rdC bs s).2) w' ∧ w.grownBy w' (some g)
  generalize (rdC bs s).1 = N at *
  generalize (rdC bs s).2 = s1 at *
  clear h hE
  go_enter Tryz.func90, Tryz.ntmps90
  go_upto_region 2 with fail
  go_wp2_with (go_at_call 84; refine (CT.out).mono ?_)
  first | (rintro e w1 ⟨he, h1, g1⟩; have he' := he) | (rintro e w1 he h1 g1)
  subst he
  have R1 : Hid (Rd g kb o c bs s1 w1) := h1
  have G1 : Hid (w.grownBy w1 (some g)) := g1
  have GB : Hid (g < w1.heap.size) := h1.lt
  clear h1 g1
  go_wp2
  go_loopw [5, 8] (fun v i wr => ∃ (k : Nat) (t : RS), i = .int .i64 k ∧ LsI rd N.toNat s1 k t ∧ MkI 88 10 (fun S w => Is opC) w1.heap.size (rdKL rd N.toNat s1) k v wr ∧ Rd g kb o c bs t wr ∧ w1.grownBy wr (some g)) (fun _ i _ => N.toNat - (intOf i).toNat)
  case atStart => exact ⟨0, s1, rfl, LsI.zero, MkI.zero _ _ _ _ _ _, R1.out, gb_refl _ _⟩
  case round =>
    obtain ⟨k, t, rfl, hL, hM, hR, hG⟩ := hrel
    have LI : Hid (LsI rd N.toNat s1 k t) := hL
    have MI : Hid (MkI 88 10 (fun S w => Is opC) w1.heap.size (rdKL rd N.toNat s1) k u5 wr) := hM
    have RI : Hid (Rd g kb o c bs t wr) := hR
    have GI : Hid (w1.grownBy wr (some g)) := hG
    have fin : Hid (k = N.toNat ∨ t.y ≠ 0 → (∃ y c2, u5 = .slice y (rdKL rd N.toNat s1).length c2 ∧ RwF 10 ((fun S w => Is opC) (Fresh w.heap.size wr.heap.size) wr) (Fresh w.heap.size wr.heap.size) wr y (rdKL rd N.toNat s1)) ∧ Rd g kb o c bs (rdKS rd N.toNat s1) wr ∧ w.grownBy wr (some g)) := fun q => by
      obtain ⟨e1, e2⟩ := hL.last q
      rw [e2]
      have fe : few (rdKL rd N.toNat s1).length := by
        have := rdKL_len rd N.toNat s1
        by_cases z : s1.y = 0
        · have := OK.out z; show _ < _; omega
        · rw [rdKL_bad rd _ z]; show 0 < _; omega
      have hM2 := hM
      rw [← e1] at hM2
      obtain ⟨y, c2, ey, hy⟩ := hM2.done (keptI _) fe
      exact ⟨⟨y, c2, ey, (hy.subK (keptI _) (up_sub' G1.out.size (Nat.le_refl _)))⟩, hR, gb_trans G1.out hG⟩
    clear hL hM hR hG
    by_cases hlt : (k : Int) < N
    · by_cases hy : t.y = 0
      · have HB : Hid (Calls Tryz.prog 76 #[.pointer (some ⟨g, 0, none⟩)] wr fun e w' => e = .returned (.bool false) ∧ w' = wr) := by
          have q := failedX g _ _ _ _ _ _ wr RI.out.at_
          rw [hy] at q
          exact q
        have NX : Hid (LsI rd N.toNat s1 (k + 1) (rd t).2) := LI.out.next (by omega) hy
        have GE : Hid ((rdKL rd N.toNat s1)[k]? = some (rd t).1) := LI.out.get (by omega) hy
        have LE : Hid (k + 1 ≤ 4194304) := by have := OK.out (LI.out.ok hy); show _ ≤ _; omega
        have LT : Hid ((k : Int) < N) := hlt
        clear hy fin LI
        go_wp2_with (go_at_call 76; refine (HB.out).mono ?_)
        try (first | (rintro e w2 ⟨he, hw⟩; have he' := he; subst he; rw [hw]; clear hw w2) | (rintro e w2 he hw; subst he; rw [hw]; clear hw w2))
        go_wp2_with fail
        refine (HE.out t wr RI.out).mono ?_
        first | (rintro e w5 ⟨he, h5, g5⟩; have he' := he) | (rintro e w5 he h5 g5)
        subst he
        have R5 : Hid (Rd g kb o c bs (rd t).2 w5) := h5
        have G5 : Hid (wr.grownBy w5 (some g)) := g5
        clear h5 g5 RI HE HB
        generalize (rd t).1 = ee at *
        generalize (rd t).2 = t2 at *
        obtain ⟨vss, ehs, hvn, how, hev⟩ := MI.out
        have EHS : Hid (vss.length = k) := ehs
        have HVN : Hid (∀ v ∈ vss, v.length = 10) := hvn
        have OW : Hid (wr.ownsRow w1.heap.size 88 10 u5 k vss.flatten) := how
        have EV : Hid _ := hev
        clear ehs hvn how hev MI
        have ew : wrap64 ((k : Int) + 1) = (k : Int) + 1 := by have := LE.out; unfold wrap64; omega
        have OW5 : Hid (∀ X : Obj, (w5.alloc X).ownsRow w1.heap.size 88 10 u5 k vss.flatten) := fun X => (OW.out.kept G5.out (ob_ne OW.out.lt GB.out)).alloc X
        have NW : Hid (∀ j u, (opC ee)[j]? = some u → (w5.alloc (.cells (opC ee).toArray 88)).cell? ((⟨w5.heap.size, 0, none⟩ : Addr).add j) = some u) := fun j u h => mk_cells w5 _ _ j u h
        have BZ : Hid (∀ X : Obj, w1.heap.size ≤ (w5.alloc X).heap.size) := fun X => by have := GI.out.size; have := G5.out.size; simp; omega
        have I : Hid _ := infRlO
        go_wp2_with (at_builtin; obtain ⟨i, z, hi, hz, hs', hy, hzc⟩ := I.out; refine wpList_append_own_at _ rfl _ _ 63 rfl w1.heap.size 88 i z 10 88 Tryz.underlying63 hi hz hs' hy hzc (by decide) u5 k vss.flatten rfl (OW5.out _) ⟨w5.heap.size, 0, none⟩ 1 1 (opC ee) rfl rfl NW.out (by intro u hu; simp at hu; rcases hu with h | h | h | h | h | h | h | h | h | h <;> subst h <;> rfl) (by have := LE.out; simp [maxLen]; omega) (by have := LE.out; omega) (BZ.out _) ?_; intro v' w7 q1 q2 q3 q4; have Q1 : Hid _ := q1; have Q2 : Hid _ := q2; have Q4 : Hid _ := q4; clear q1 q2 q3 q4 hi hz hs' hy hzc)
        rw [ew]
        have B5 : wr.grownBy (w5.alloc (.cells (opC ee).toArray 88)) (some g) := gb_trans G5.out (gb_alloc _ _ _)
        have hob : ∀ i, u5.ownBlock = some i → w1.heap.size ≤ i := fun i hi => (OW.out.lt i hi).1
        refine ⟨⟨k + 1, t2, rfl, NX.out, MkI.stepG (keptI _) GB.out EHS.out HVN.out EV.out OW.out.lt _ _ GE.out rfl GI.out.size B5 rfl Q2.out Q1.out Q4.out, ?_, ?_⟩, ?_⟩
        · exact (R5.out.al _).grown Q2.out (fun q => by have := hob _ q; have := GB.out; omega) (fun q => by have := hob _ q; have := R1.out.kl; omega)
        · exact gb_own (gb_trans GI.out B5) Q2.out hob
        · have := LT.out
          show N.toNat - ((k : Int) + 1).toNat < N.toNat - (k : Int).toNat
          omega
      · have HB : Hid (Calls Tryz.prog 76 #[.pointer (some ⟨g, 0, none⟩)] wr fun e w' => e = .returned (.bool true) ∧ w' = wr) := by
          have q := failedX g _ _ _ _ _ _ wr RI.out.at_
          rw [show (t.y != 0) = true by simp [hy]] at q
          exact q
        obtain ⟨⟨y, c2, ev, hy2⟩, hr2, hg2⟩ := fin.out (Or.inr hy)
        subst ev
        have Y2 : Hid _ := hy2
        have R2 : Hid _ := hr2
        have G2 : Hid _ := hg2
        clear hy hy2 hr2 hg2 fin LI MI RI GI
        go_wp2_with (go_at_call 76; refine (HB.out).mono ?_)
        try (first | (rintro e w2 ⟨he, hw⟩; have he' := he; subst he; rw [hw]; clear hw w2) | (rintro e w2 he hw; subst he; rw [hw]; clear hw w2))
        go_wp2
        go_ret
        first | exact ⟨⟨y, ⟨c2, rfl⟩, Y2.out⟩, R2.out, G2.out⟩ | exact ⟨⟨y, c2, rfl, Y2.out⟩, R2.out, G2.out⟩
    · obtain ⟨⟨y, c2, ev, hy2⟩, hr2, hg2⟩ := fin.out (Or.inl (by have := LI.out.1; omega))
      subst ev
      have Y2 : Hid _ := hy2
      have R2 : Hid _ := hr2
      have G2 : Hid _ := hg2
      clear hy2 hr2 hg2 fin LI MI RI GI
      go_wp2
      go_ret
      first | exact ⟨⟨y, ⟨c2, rfl⟩, Y2.out⟩, R2.out, G2.out⟩ | exact ⟨⟨y, c2, rfl, Y2.out⟩, R2.out, G2.out⟩
theorem infRlC : ∃ i z, Tryz.prog.info? 56 = some i ∧ i.zero = some z ∧ i.size = 11 ∧ i.bytes = 96 ∧ z.cells.size = 11 := by
  obtain ⟨i, hi, hz⟩ := Option.map_eq_some_iff.1 (show (Tryz.prog.info? 56).map (fun i => (i.zero.map (·.cells.size), i.size, i.bytes)) = some (some 11, 11, 96) by kernel_rfl)
  simp only [Prod.mk.injEq] at hz
  obtain ⟨z, h1, h2⟩ := Option.map_eq_some_iff.1 hz.1
  exact ⟨i, z, hi, h1, hz.2.1, hz.2.2, h2⟩
set_option maxRecDepth 20000 in
set_option maxHeartbeats 8000000 in
theorem RlC (g kb o c : Nat) (bs : List Nat) (rd : RS → CeR × RS)
    (hE : ∀ (s : RS) (W : World), Rd g kb o c bs s W → Calls Tryz.prog 71 #[.pointer (some ⟨g, 0, none⟩)] W fun e w' => e = .returned (.agg #[.int .u8 (rd s).1.kd, .bool (rd s).1.sb, .int .i64 (rd s).1.lo, .int .i64 (rd s).1.hi, .int .i64 (rd s).1.mx, .int .u8 (rd s).1.ik, .int .u64 (rd s).1.ib, .string (rd s).1.is, .bool (rd s).1.kp, .int .i64 (rd s).1.dr, .string (rd s).1.ad]) ∧ Rd g kb o c bs (rd s).2 w' ∧ W.grownBy w' (some g))
    (s : RS) (w : World) (h : Rd g kb o c bs s w) :
    Calls Tryz.prog 70 #[.pointer (some ⟨g, 0, none⟩), .func (.func 71) #[.pointer (some ⟨g, 0, none⟩)] #[]] w fun e w' => (∃ y k, e = .returned (.slice y (rdL rd bs s).1.length k) ∧ RwF 11 ((fun S w => Is ceC) (Fresh w.heap.size w'.heap.size) w') (Fresh w.heap.size w'.heap.size) w' y (rdL rd bs s).1) ∧ Rd g kb o c bs (rdL rd bs s).2 w' ∧ w.grownBy w' (some g) := by
  have CT : Hid (Calls Tryz.prog 84 #[.pointer (some ⟨g, 0, none⟩)] w fun e w' => e = .returned (.int .i64 (rdC bs s).1) ∧ Rd g kb o c bs (rdC bs s).2 w' ∧ w.grownBy w' (some g)) := cntM g kb o c bs s w h
  have OK : Hid ((rdC bs s).2.y = 0 → 0 ≤ (rdC bs s).1 ∧ (rdC bs s).1.toNat ≤ 4194304) := fun q => by have := rdC_ok q; have := h.n4; omega
  have GL : Hid (g < w.heap.size) := h.lt
  have HE : Hid _ := hE
  show Calls _ _ _ _ fun e w' => (∃ y k, e = .returned (.slice y (rdKL rd (rdC bs s).1.toNat (rdC bs s).2).length k) ∧ RwF 11 ((fun S w => Is ceC) (Fresh w.heap.size w'.heap.size) w') (Fresh w.heap.size w'.heap.size) w' y (rdKL rd (rdC bs s).1.toNat (rdC bs s).2)) ∧ Rd g kb o c bs (rdKS rd (rdC bs s).1.toNat (rdC bs s).2) w' ∧ w.grownBy w' (some g)
  generalize (rdC bs s).1 = N at *
  generalize (rdC bs s).2 = s1 at *
  clear h hE
  go_enter Tryz.func70, Tryz.ntmps70
  go_upto_region 2 with fail
  go_wp2_with (go_at_call 84; refine (CT.out).mono ?_)
  first | (rintro e w1 ⟨he, h1, g1⟩; have he' := he) | (rintro e w1 he h1 g1)
  subst he
  have R1 : Hid (Rd g kb o c bs s1 w1) := h1
  have G1 : Hid (w.grownBy w1 (some g)) := g1
  have GB : Hid (g < w1.heap.size) := h1.lt
  clear h1 g1
  go_wp2
  go_loopw [5, 8] (fun v i wr => ∃ (k : Nat) (t : RS), i = .int .i64 k ∧ LsI rd N.toNat s1 k t ∧ MkI 56 11 (fun S w => Is ceC) w1.heap.size (rdKL rd N.toNat s1) k v wr ∧ Rd g kb o c bs t wr ∧ w1.grownBy wr (some g)) (fun _ i _ => N.toNat - (intOf i).toNat)
  case atStart => exact ⟨0, s1, rfl, LsI.zero, MkI.zero _ _ _ _ _ _, R1.out, gb_refl _ _⟩
  case round =>
    obtain ⟨k, t, rfl, hL, hM, hR, hG⟩ := hrel
    have LI : Hid (LsI rd N.toNat s1 k t) := hL
    have MI : Hid (MkI 56 11 (fun S w => Is ceC) w1.heap.size (rdKL rd N.toNat s1) k u5 wr) := hM
    have RI : Hid (Rd g kb o c bs t wr) := hR
    have GI : Hid (w1.grownBy wr (some g)) := hG
    have fin : Hid (k = N.toNat ∨ t.y ≠ 0 → (∃ y c2, u5 = .slice y (rdKL rd N.toNat s1).length c2 ∧ RwF 11 ((fun S w => Is ceC) (Fresh w.heap.size wr.heap.size) wr) (Fresh w.heap.size wr.heap.size) wr y (rdKL rd N.toNat s1)) ∧ Rd g kb o c bs (rdKS rd N.toNat s1) wr ∧ w.grownBy wr (some g)) := fun q => by
      obtain ⟨e1, e2⟩ := hL.last q
      rw [e2]
      have fe : few (rdKL rd N.toNat s1).length := by
        have := rdKL_len rd N.toNat s1
        by_cases z : s1.y = 0
        · have := OK.out z; show _ < _; omega
        · rw [rdKL_bad rd _ z]; show 0 < _; omega
      have hM2 := hM
      rw [← e1] at hM2
      obtain ⟨y, c2, ey, hy⟩ := hM2.done (keptI _) fe
      exact ⟨⟨y, c2, ey, (hy.subK (keptI _) (up_sub' G1.out.size (Nat.le_refl _)))⟩, hR, gb_trans G1.out hG⟩
    clear hL hM hR hG
    by_cases hlt : (k : Int) < N
    · by_cases hy : t.y = 0
      · have HB : Hid (Calls Tryz.prog 76 #[.pointer (some ⟨g, 0, none⟩)] wr fun e w' => e = .returned (.bool false) ∧ w' = wr) := by
          have q := failedX g _ _ _ _ _ _ wr RI.out.at_
          rw [hy] at q
          exact q
        have NX : Hid (LsI rd N.toNat s1 (k + 1) (rd t).2) := LI.out.next (by omega) hy
        have GE : Hid ((rdKL rd N.toNat s1)[k]? = some (rd t).1) := LI.out.get (by omega) hy
        have LE : Hid (k + 1 ≤ 4194304) := by have := OK.out (LI.out.ok hy); show _ ≤ _; omega
        have LT : Hid ((k : Int) < N) := hlt
        clear hy fin LI
        go_wp2_with (go_at_call 76; refine (HB.out).mono ?_)
        try (first | (rintro e w2 ⟨he, hw⟩; have he' := he; subst he; rw [hw]; clear hw w2) | (rintro e w2 he hw; subst he; rw [hw]; clear hw w2))
        go_wp2_with fail
        refine (HE.out t wr RI.out).mono ?_
        first | (rintro e w5 ⟨he, h5, g5⟩; have he' := he) | (rintro e w5 he h5 g5)
        subst he
        have R5 : Hid (Rd g kb o c bs (rd t).2 w5) := h5
        have G5 : Hid (wr.grownBy w5 (some g)) := g5
        clear h5 g5 RI HE HB
        generalize (rd t).1 = ee at *
        generalize (rd t).2 = t2 at *
        obtain ⟨vss, ehs, hvn, how, hev⟩ := MI.out
        have EHS : Hid (vss.length = k) := ehs
        have HVN : Hid (∀ v ∈ vss, v.length = 11) := hvn
        have OW : Hid (wr.ownsRow w1.heap.size 56 11 u5 k vss.flatten) := how
        have EV : Hid _ := hev
        clear ehs hvn how hev MI
        have ew : wrap64 ((k : Int) + 1) = (k : Int) + 1 := by have := LE.out; unfold wrap64; omega
        have OW5 : Hid (∀ X : Obj, (w5.alloc X).ownsRow w1.heap.size 56 11 u5 k vss.flatten) := fun X => (OW.out.kept G5.out (ob_ne OW.out.lt GB.out)).alloc X
        have NW : Hid (∀ j u, (ceC ee)[j]? = some u → (w5.alloc (.cells (ceC ee).toArray 56)).cell? ((⟨w5.heap.size, 0, none⟩ : Addr).add j) = some u) := fun j u h => mk_cells w5 _ _ j u h
        have BZ : Hid (∀ X : Obj, w1.heap.size ≤ (w5.alloc X).heap.size) := fun X => by have := GI.out.size; have := G5.out.size; simp; omega
        have I : Hid _ := infRlC
        go_wp2_with (at_builtin; obtain ⟨i, z, hi, hz, hs', hy, hzc⟩ := I.out; refine wpList_append_own_at _ rfl _ _ 22 rfl w1.heap.size 56 i z 11 96 Tryz.underlying22 hi hz hs' hy hzc (by decide) u5 k vss.flatten rfl (OW5.out _) ⟨w5.heap.size, 0, none⟩ 1 1 (ceC ee) rfl rfl NW.out (by intro u hu; simp at hu; rcases hu with h | h | h | h | h | h | h | h | h | h | h <;> subst h <;> rfl) (by have := LE.out; simp [maxLen]; omega) (by have := LE.out; omega) (BZ.out _) ?_; intro v' w7 q1 q2 q3 q4; have Q1 : Hid _ := q1; have Q2 : Hid _ := q2; have Q4 : Hid _ := q4; clear q1 q2 q3 q4 hi hz hs' hy hzc)
        rw [ew]
        have B5 : wr.grownBy (w5.alloc (.cells (ceC ee).toArray 56)) (some g) := gb_trans G5.out (gb_alloc _ _ _)
        have hob : ∀ i, u5.ownBlock = some i → w1.heap.size ≤ i := fun i hi => (OW.out.lt i hi).1
        refine ⟨⟨k + 1, t2, rfl, NX.out, MkI.stepG (keptI _) GB.out EHS.out HVN.out EV.out OW.out.lt _ _ GE.out rfl GI.out.size B5 rfl Q2.out Q1.out Q4.out, ?_, ?_⟩, ?_⟩
        · exact (R5.out.al _).grown Q2.out (fun q => by have := hob _ q; have := GB.out; omega) (fun q => by have := hob _ q; have := R1.out.kl; omega)
        · exact gb_own (gb_trans GI.out B5) Q2.out hob
        · have := LT.out
          show N.toNat - ((k : Int) + 1).toNat < N.toNat - (k : Int).toNat
          omega
      · have HB : Hid (Calls Tryz.prog 76 #[.pointer (some ⟨g, 0, none⟩)] wr fun e w' => e = .returned (.bool true) ∧ w' = wr) := by
          have q := failedX g _ _ _ _ _ _ wr RI.out.at_
          rw [show (t.y != 0) = true by simp [hy]] at q
          exact q
        obtain ⟨⟨y, c2, ev, hy2⟩, hr2, hg2⟩ := fin.out (Or.inr hy)
        subst ev
        have Y2 : Hid _ := hy2
        have R2 : Hid _ := hr2
        have G2 : Hid _ := hg2
        clear hy hy2 hr2 hg2 fin LI MI RI GI
        go_wp2_with (go_at_call 76; refine (HB.out).mono ?_)
        try (first | (rintro e w2 ⟨he, hw⟩; have he' := he; subst he; rw [hw]; clear hw w2) | (rintro e w2 he hw; subst he; rw [hw]; clear hw w2))
        go_wp2
        go_ret
        first | exact ⟨⟨y, ⟨c2, rfl⟩, Y2.out⟩, R2.out, G2.out⟩ | exact ⟨⟨y, c2, rfl, Y2.out⟩, R2.out, G2.out⟩
    · obtain ⟨⟨y, c2, ev, hy2⟩, hr2, hg2⟩ := fin.out (Or.inl (by have := LI.out.1; omega))
      subst ev
      have Y2 : Hid _ := hy2
      have R2 : Hid _ := hr2
      have G2 : Hid _ := hg2
      clear hy2 hr2 hg2 fin LI MI RI GI
      go_wp2
      go_ret
      first | exact ⟨⟨y, ⟨c2, rfl⟩, Y2.out⟩, R2.out, G2.out⟩ | exact ⟨⟨y, c2, rfl, Y2.out⟩, R2.out, G2.out⟩
end Go.Proofs.YtkickdmomompjaaGreat
namespace Go.Proofs.YtkickdmomompjaaGreat
set_option linter.unusedVariables false
open Go.RowKit
theorem rw_keep {α : Type} {n : Nat} {P : (Nat → Prop) → World → α → List Value → Prop} (K : Kept P) {b g : Nat} {w w' : World} {x : Option Addr} {l : List α} (h : RwF n (P (Fresh b w.heap.size) w) (Fresh b w.heap.size) w x l) (hg : w.grownBy w' (some g)) (hgb : g < b) : RwF n (P (Fresh b w'.heap.size) w') (Fresh b w'.heap.size) w' x l :=
  RwF.subK K (up_sub' (Nat.le_refl _) hg.size) (h.frK K (fun q hq => World.cell?_of_block (hg.block _ hq.2 (fun e => by cases e; have := hq.1; omega))))
theorem rw_row {α : Type} {n : Nat} {P : (Nat → Prop) → World → α → List Value → Prop} (K : Kept P) {a r : Nat} {w : World} {x : Option Addr} {l : List α} {vs : Array Value} (h : RwF n (P (Fresh (r + 1) w.heap.size) w) (Fresh (r + 1) w.heap.size) w x l) (ha : a ≤ r) : RwF n (P (Fresh a (w.setRow r vs).heap.size) (w.setRow r vs)) (Fresh a (w.setRow r vs).heap.size) (w.setRow r vs) x l :=
  RwF.subK K (up_sub' (Nat.le_succ_of_le ha) (by simp [World.setRow])) (h.frK K (fun q hq => World.cell?_of_block (setRow_other _ _ _ _ (by have := hq.1; omega))))
set_option maxRecDepth 20000 in
set_option maxHeartbeats 8000000 in
theorem codeG (g kb o c : Nat) (bs : List Nat) (s s1 s2 s3 s4 s5 s6 s7 s8 : RS) (v1 : ByteArray) (v2 : Int) (v3 : Int) (v4 : Int) (v5 : Int) (v6 : Int) (v7 : List OpR) (v8 : List LpR)
    (C1 : ∀ W, Rd g kb o c bs s W → Calls Tryz.prog 69 #[.pointer (some ⟨g, 0, none⟩)] W fun e w' => e = .returned (.string v1) ∧ Rd g kb o c bs s1 w' ∧ W.grownBy w' (some g))
    (C2 : ∀ W, Rd g kb o c bs s1 W → Calls Tryz.prog 88 #[.pointer (some ⟨g, 0, none⟩)] W fun e w' => e = .returned (.int .i64 v2) ∧ Rd g kb o c bs s2 w' ∧ W.grownBy w' (some g))
    (C3 : ∀ W, Rd g kb o c bs s2 W → Calls Tryz.prog 88 #[.pointer (some ⟨g, 0, none⟩)] W fun e w' => e = .returned (.int .i64 v3) ∧ Rd g kb o c bs s3 w' ∧ W.grownBy w' (some g))
    (C4 : ∀ W, Rd g kb o c bs s3 W → Calls Tryz.prog 88 #[.pointer (some ⟨g, 0, none⟩)] W fun e w' => e = .returned (.int .i64 v4) ∧ Rd g kb o c bs s4 w' ∧ W.grownBy w' (some g))
    (C5 : ∀ W, Rd g kb o c bs s4 W → Calls Tryz.prog 88 #[.pointer (some ⟨g, 0, none⟩)] W fun e w' => e = .returned (.int .i64 v5) ∧ Rd g kb o c bs s5 w' ∧ W.grownBy w' (some g))
    (C6 : ∀ W, Rd g kb o c bs s5 W → Calls Tryz.prog 88 #[.pointer (some ⟨g, 0, none⟩)] W fun e w' => e = .returned (.int .i64 v6) ∧ Rd g kb o c bs s6 w' ∧ W.grownBy w' (some g))
    (C7 : ∀ W, Rd g kb o c bs s6 W → Calls Tryz.prog 90 #[.pointer (some ⟨g, 0, none⟩), .func (.func 91) #[.pointer (some ⟨g, 0, none⟩)] #[]] W fun e w' => (∃ y k, e = .returned (.slice y v7.length k) ∧ RwF 10 ((fun S w => Is opC) (Fresh W.heap.size w'.heap.size) w') (Fresh W.heap.size w'.heap.size) w' y v7) ∧ Rd g kb o c bs s7 w' ∧ W.grownBy w' (some g))
    (C8 : ∀ W, Rd g kb o c bs s7 W → Calls Tryz.prog 92 #[.pointer (some ⟨g, 0, none⟩), .func (.func 93) #[.pointer (some ⟨g, 0, none⟩)] #[]] W fun e w' => (∃ y k, e = .returned (.slice y v8.length k) ∧ RwF 3 ((fun S w => Is lpC) (Fresh W.heap.size w'.heap.size) w') (Fresh W.heap.size w'.heap.size) w' y v8) ∧ Rd g kb o c bs s8 w' ∧ W.grownBy w' (some g))
    (w : World) (h : Rd g kb o c bs s w) :
    Calls Tryz.prog 73 #[.pointer (some ⟨g, 0, none⟩)] w fun e w' => (∃ y7 c7 y8 c8, e = .returned (.agg #[.string v1, .int .i64 v2, .int .i64 v3, .int .i64 v4, .int .i64 v5, .int .i64 v6, .slice y7 v7.length c7, .slice y8 v8.length c8]) ∧ RwF 10 ((fun S w => Is opC) (Fresh w.heap.size w'.heap.size) w') (Fresh w.heap.size w'.heap.size) w' y7 v7 ∧ RwF 3 ((fun S w => Is lpC) (Fresh w.heap.size w'.heap.size) w') (Fresh w.heap.size w'.heap.size) w' y8 v8) ∧ Rd g kb o c bs s8 w' ∧ w.grownBy w' (some g) := by
  obtain ⟨r, hr⟩ : ∃ r, w.heap.size = r := ⟨_, rfl⟩
  obtain ⟨AW, eW⟩ : ∃ AW, AW = w.alloc (.cells #[.string ⟨#[]⟩, .int .i64 0, .int .i64 0, .int .i64 0, .int .i64 0, .int .i64 0, .slice none 0 0, .slice none 0 0] 66 (0, 0)) := ⟨_, rfl⟩
  have R0 : Hid (Rd g kb o c bs s AW) := by rw [eW]; exact h.al _
  have G0 : Hid (w.grownBy AW (some g)) := by rw [eW]; exact gb_alloc _ _ _
  have X0 : Hid (AW.heap[r]? = some (.cells #[.string ⟨#[]⟩, .int .i64 0, .int .i64 0, .int .i64 0, .int .i64 0, .int .i64 0, .slice none 0 0, .slice none 0 0] 66 (0, 0))) := by rw [eW, ← hr]; exact heap_alloc_last _ _
  have NG : Hid (r ≠ g) := by have := h.lt; show r ≠ g; omega
  have RG : Hid (w.heap.size ≤ r) := by show _ ≤ _; omega
  have GR : Hid (g < r) := by have := h.lt; show _ < _; omega
  have NK : Hid (r ≠ kb) := by have := h.kl; show r ≠ kb; omega
  have S0 : Hid (r < AW.heap.size) := blk_in' X0.out
  have D1 : Hid _ := C1
  have D2 : Hid _ := C2
  have D3 : Hid _ := C3
  have D4 : Hid _ := C4
  have D5 : Hid _ := C5
  have D6 : Hid _ := C6
  have D7 : Hid _ := C7
  have D8 : Hid _ := C8
  clear h C1 C2 C3 C4 C5 C6 C7 C8
  go_enter Tryz.func73, Tryz.ntmps73
  go_upto_region 1 with fail
  rw [← eW]
  try rw [hr]
  clear eW hr
  go_wp2_with (go_at_call 69; refine (D1.out _ R0.out).mono ?_)
  first | (rintro e w1 ⟨he, h1, g1⟩; have he' := he) | (rintro e w1 he h1 g1)
  subst he
  have R1 : Hid (Rd g kb o c bs s1 w1) := h1
  have G1 : Hid (w.grownBy w1 (some g)) := gb_trans G0.out g1
  have X1 : Hid (w1.heap[r]? = some (.cells #[.string ⟨#[]⟩, .int .i64 0, .int .i64 0, .int .i64 0, .int .i64 0, .int .i64 0, .slice none 0 0, .slice none 0 0] 66 (0, 0))) := (g1.block r (blk_in' X0.out) (by have := NG.out; intro q; cases q; exact this rfl)).trans X0.out
  have S1 : Hid (r < w1.heap.size) := blk_in' X1.out
  clear h1 g1 R0 G0 X0 S0 D1
  go_wp2_with (go_at_call 88; refine (D2.out _ R1.out).mono ?_)
  first | (rintro e w2 ⟨he, h1, g1⟩; have he' := he) | (rintro e w2 he h1 g1)
  subst he
  have R2 : Hid (Rd g kb o c bs s2 w2) := h1
  have G2 : Hid (w.grownBy w2 (some g)) := gb_trans G1.out g1
  have X2 : Hid (w2.heap[r]? = some (.cells #[.string ⟨#[]⟩, .int .i64 0, .int .i64 0, .int .i64 0, .int .i64 0, .int .i64 0, .slice none 0 0, .slice none 0 0] 66 (0, 0))) := (g1.block r (blk_in' X1.out) (by have := NG.out; intro q; cases q; exact this rfl)).trans X1.out
  have S2 : Hid (r < w2.heap.size) := blk_in' X2.out
  clear h1 g1 R1 G1 X1 S1 D2
  go_wp2_with (go_at_call 88; refine (D3.out _ R2.out).mono ?_)
  first | (rintro e w3 ⟨he, h1, g1⟩; have he' := he) | (rintro e w3 he h1 g1)
  subst he
  have R3 : Hid (Rd g kb o c bs s3 w3) := h1
  have G3 : Hid (w.grownBy w3 (some g)) := gb_trans G2.out g1
  have X3 : Hid (w3.heap[r]? = some (.cells #[.string ⟨#[]⟩, .int .i64 0, .int .i64 0, .int .i64 0, .int .i64 0, .int .i64 0, .slice none 0 0, .slice none 0 0] 66 (0, 0))) := (g1.block r (blk_in' X2.out) (by have := NG.out; intro q; cases q; exact this rfl)).trans X2.out
  have S3 : Hid (r < w3.heap.size) := blk_in' X3.out
  clear h1 g1 R2 G2 X2 S2 D3
  go_wp2_with (go_at_call 88; refine (D4.out _ R3.out).mono ?_)
  first | (rintro e w4 ⟨he, h1, g1⟩; have he' := he) | (rintro e w4 he h1 g1)
  subst he
  have R4 : Hid (Rd g kb o c bs s4 w4) := h1
  have G4 : Hid (w.grownBy w4 (some g)) := gb_trans G3.out g1
  have X4 : Hid (w4.heap[r]? = some (.cells #[.string ⟨#[]⟩, .int .i64 0, .int .i64 0, .int .i64 0, .int .i64 0, .int .i64 0, .slice none 0 0, .slice none 0 0] 66 (0, 0))) := (g1.block r (blk_in' X3.out) (by have := NG.out; intro q; cases q; exact this rfl)).trans X3.out
  have S4 : Hid (r < w4.heap.size) := blk_in' X4.out
  clear h1 g1 R3 G3 X3 S3 D4
  go_wp2_with (go_at_call 88; refine (D5.out _ R4.out).mono ?_)
  first | (rintro e w5 ⟨he, h1, g1⟩; have he' := he) | (rintro e w5 he h1 g1)
  subst he
  have R5 : Hid (Rd g kb o c bs s5 w5) := h1
  have G5 : Hid (w.grownBy w5 (some g)) := gb_trans G4.out g1
  have X5 : Hid (w5.heap[r]? = some (.cells #[.string ⟨#[]⟩, .int .i64 0, .int .i64 0, .int .i64 0, .int .i64 0, .int .i64 0, .slice none 0 0, .slice none 0 0] 66 (0, 0))) := (g1.block r (blk_in' X4.out) (by have := NG.out; intro q; cases q; exact this rfl)).trans X4.out
  have S5 : Hid (r < w5.heap.size) := blk_in' X5.out
  clear h1 g1 R4 G4 X4 S4 D5
  go_wp2_with (go_at_call 88; refine (D6.out _ R5.out).mono ?_)
  first | (rintro e w6 ⟨he, h1, g1⟩; have he' := he) | (rintro e w6 he h1 g1)
  subst he
  have R6 : Hid (Rd g kb o c bs s6 w6) := h1
  have G6 : Hid (w.grownBy w6 (some g)) := gb_trans G5.out g1
  have X6 : Hid (w6.heap[r]? = some (.cells #[.string ⟨#[]⟩, .int .i64 0, .int .i64 0, .int .i64 0, .int .i64 0, .int .i64 0, .slice none 0 0, .slice none 0 0] 66 (0, 0))) := (g1.block r (blk_in' X5.out) (by have := NG.out; intro q; cases q; exact this rfl)).trans X5.out
  have S6 : Hid (r < w6.heap.size) := blk_in' X6.out
  clear h1 g1 R5 G5 X5 S5 D6
  go_wp2_with (go_at_call 90; refine (D7.out _ R6.out).mono ?_)
  first | (rintro e w7 ⟨⟨y7, c7, he, q1⟩, h1, g1⟩; have he' := he) | (rintro e w7 y7 c7 he q1 h1 g1)
  subst he
  have R7 : Hid (Rd g kb o c bs s7 w7) := h1
  have G7 : Hid (w.grownBy w7 (some g)) := gb_trans G6.out g1
  have X7 : Hid (w7.heap[r]? = some (.cells #[.string ⟨#[]⟩, .int .i64 0, .int .i64 0, .int .i64 0, .int .i64 0, .int .i64 0, .slice none 0 0, .slice none 0 0] 66 (0, 0))) := (g1.block r (blk_in' X6.out) (by have := NG.out; intro q; cases q; exact this rfl)).trans X6.out
  have S7 : Hid (r < w7.heap.size) := blk_in' X7.out
  have Q7_7 : Hid (RwF 10 ((fun S w => Is opC) (Fresh (r + 1) w7.heap.size) w7) (Fresh (r + 1) w7.heap.size) w7 y7 v7) := RwF.subK (keptI _) (up_sub' S6.out (Nat.le_refl _)) q1
  clear q1
  clear h1 g1 R6 G6 X6 S6 D7
  go_wp2_with (go_at_call 92; refine (D8.out _ R7.out).mono ?_)
  first | (rintro e w8 ⟨⟨y8, c8, he, q1⟩, h1, g1⟩; have he' := he) | (rintro e w8 y8 c8 he q1 h1 g1)
  subst he
  have R8 : Hid (Rd g kb o c bs s8 w8) := h1
  have G8 : Hid (w.grownBy w8 (some g)) := gb_trans G7.out g1
  have X8 : Hid (w8.heap[r]? = some (.cells #[.string ⟨#[]⟩, .int .i64 0, .int .i64 0, .int .i64 0, .int .i64 0, .int .i64 0, .slice none 0 0, .slice none 0 0] 66 (0, 0))) := (g1.block r (blk_in' X7.out) (by have := NG.out; intro q; cases q; exact this rfl)).trans X7.out
  have S8 : Hid (r < w8.heap.size) := blk_in' X8.out
  have Q7_8 : Hid (RwF 10 ((fun S w => Is opC) (Fresh (r + 1) w8.heap.size) w8) (Fresh (r + 1) w8.heap.size) w8 y7 v7) := rw_keep (keptI _) Q7_7.out g1 (Nat.lt_succ_of_lt GR.out)
  clear Q7_7
  have Q8_8 : Hid (RwF 3 ((fun S w => Is lpC) (Fresh (r + 1) w8.heap.size) w8) (Fresh (r + 1) w8.heap.size) w8 y8 v8) := RwF.subK (keptI _) (up_sub' S7.out (Nat.le_refl _)) q1
  clear q1
  clear h1 g1 R7 G7 X7 S7 D8
  go_wp2_with (refine wpList_store_row rfl 66 _ _ rfl r _ rfl rfl _ _ X8.out (show (Tryz.prog.info? 66).map (·.size) = some 8 by kernel_rfl) rfl (by kernel_rfl) ?_)
  have hz := setRow_heap w8 r _ (#[.string v1, .int .i64 v2, .int .i64 v3, .int .i64 v4, .int .i64 v5, .int .i64 v6, .slice y7 v7.length c7, .slice y8 v8.length c8]) _ _ X8.out
  refine bodyPost_ret (v := .agg #[.string v1, .int .i64 v2, .int .i64 v3, .int .i64 v4, .int .i64 v5, .int .i64 v6, .slice y7 v7.length c7, .slice y8 v8.length c8]) (results_cell_row Tryz.results73 _ _ r _ _ (0, 0) _ (by first | rfl | simp [Act.put]) hz Tryz.underlying66 rfl (show (Tryz.prog.info? 66).map (·.size) = some 8 by kernel_rfl)) rfl ?_
  exact ⟨⟨y7, c7, y8, c8, rfl, rw_row (keptI _) Q7_8.out RG.out, rw_row (keptI _) Q8_8.out RG.out⟩, R8.out.row NG.out NK.out _, gb_row G8.out RG.out _⟩
set_option maxRecDepth 20000 in
set_option maxHeartbeats 8000000 in
theorem jobG (g kb o c : Nat) (bs : List Nat) (s s1 s2 s3 s4 s5 s6 s7 : RS) (v1 : ByteArray) (v2 : Int) (v3 : Int) (v4 : Int) (v5 : List Int) (v6 : List Int) (v7 : Int)
    (C1 : ∀ W, Rd g kb o c bs s W → Calls Tryz.prog 69 #[.pointer (some ⟨g, 0, none⟩)] W fun e w' => e = .returned (.string v1) ∧ Rd g kb o c bs s1 w' ∧ W.grownBy w' (some g))
    (C2 : ∀ W, Rd g kb o c bs s1 W → Calls Tryz.prog 88 #[.pointer (some ⟨g, 0, none⟩)] W fun e w' => e = .returned (.int .i64 v2) ∧ Rd g kb o c bs s2 w' ∧ W.grownBy w' (some g))
    (C3 : ∀ W, Rd g kb o c bs s2 W → Calls Tryz.prog 88 #[.pointer (some ⟨g, 0, none⟩)] W fun e w' => e = .returned (.int .i64 v3) ∧ Rd g kb o c bs s3 w' ∧ W.grownBy w' (some g))
    (C4 : ∀ W, Rd g kb o c bs s3 W → Calls Tryz.prog 88 #[.pointer (some ⟨g, 0, none⟩)] W fun e w' => e = .returned (.int .i64 v4) ∧ Rd g kb o c bs s4 w' ∧ W.grownBy w' (some g))
    (C5 : ∀ W, Rd g kb o c bs s4 W → Calls Tryz.prog 94 #[.pointer (some ⟨g, 0, none⟩), .func (.func 88) #[.pointer (some ⟨g, 0, none⟩)] #[]] W fun e w' => (∃ y k, e = .returned (.slice y v5.length k) ∧ RwF 1 ((fun S w => Is inC) (Fresh W.heap.size w'.heap.size) w') (Fresh W.heap.size w'.heap.size) w' y v5) ∧ Rd g kb o c bs s5 w' ∧ W.grownBy w' (some g))
    (C6 : ∀ W, Rd g kb o c bs s5 W → Calls Tryz.prog 94 #[.pointer (some ⟨g, 0, none⟩), .func (.func 88) #[.pointer (some ⟨g, 0, none⟩)] #[]] W fun e w' => (∃ y k, e = .returned (.slice y v6.length k) ∧ RwF 1 ((fun S w => Is inC) (Fresh W.heap.size w'.heap.size) w') (Fresh W.heap.size w'.heap.size) w' y v6) ∧ Rd g kb o c bs s6 w' ∧ W.grownBy w' (some g))
    (C7 : ∀ W, Rd g kb o c bs s6 W → Calls Tryz.prog 88 #[.pointer (some ⟨g, 0, none⟩)] W fun e w' => e = .returned (.int .i64 v7) ∧ Rd g kb o c bs s7 w' ∧ W.grownBy w' (some g))
    (w : World) (h : Rd g kb o c bs s w) :
    Calls Tryz.prog 75 #[.pointer (some ⟨g, 0, none⟩)] w fun e w' => (∃ y5 c5 y6 c6, e = .returned (.agg #[.string v1, .int .i64 v2, .int .i64 v3, .int .i64 v4, .slice y5 v5.length c5, .slice y6 v6.length c6, .int .i64 v7]) ∧ RwF 1 ((fun S w => Is inC) (Fresh w.heap.size w'.heap.size) w') (Fresh w.heap.size w'.heap.size) w' y5 v5 ∧ RwF 1 ((fun S w => Is inC) (Fresh w.heap.size w'.heap.size) w') (Fresh w.heap.size w'.heap.size) w' y6 v6) ∧ Rd g kb o c bs s7 w' ∧ w.grownBy w' (some g) := by
  obtain ⟨r, hr⟩ : ∃ r, w.heap.size = r := ⟨_, rfl⟩
  obtain ⟨AW, eW⟩ : ∃ AW, AW = w.alloc (.cells #[.string ⟨#[]⟩, .int .i64 0, .int .i64 0, .int .i64 0, .slice none 0 0, .slice none 0 0, .int .i64 0] 61 (0, 0)) := ⟨_, rfl⟩
  have R0 : Hid (Rd g kb o c bs s AW) := by rw [eW]; exact h.al _
  have G0 : Hid (w.grownBy AW (some g)) := by rw [eW]; exact gb_alloc _ _ _
  have X0 : Hid (AW.heap[r]? = some (.cells #[.string ⟨#[]⟩, .int .i64 0, .int .i64 0, .int .i64 0, .slice none 0 0, .slice none 0 0, .int .i64 0] 61 (0, 0))) := by rw [eW, ← hr]; exact heap_alloc_last _ _
  have NG : Hid (r ≠ g) := by have := h.lt; show r ≠ g; omega
  have RG : Hid (w.heap.size ≤ r) := by show _ ≤ _; omega
  have GR : Hid (g < r) := by have := h.lt; show _ < _; omega
  have NK : Hid (r ≠ kb) := by have := h.kl; show r ≠ kb; omega
  have S0 : Hid (r < AW.heap.size) := blk_in' X0.out
  have D1 : Hid _ := C1
  have D2 : Hid _ := C2
  have D3 : Hid _ := C3
  have D4 : Hid _ := C4
  have D5 : Hid _ := C5
  have D6 : Hid _ := C6
  have D7 : Hid _ := C7
  clear h C1 C2 C3 C4 C5 C6 C7
  go_enter Tryz.func75, Tryz.ntmps75
  go_upto_region 1 with fail
  rw [← eW]
  try rw [hr]
  clear eW hr
  go_wp2_with (go_at_call 69; refine (D1.out _ R0.out).mono ?_)
  first | (rintro e w1 ⟨he, h1, g1⟩; have he' := he) | (rintro e w1 he h1 g1)
  subst he
  have R1 : Hid (Rd g kb o c bs s1 w1) := h1
  have G1 : Hid (w.grownBy w1 (some g)) := gb_trans G0.out g1
  have X1 : Hid (w1.heap[r]? = some (.cells #[.string ⟨#[]⟩, .int .i64 0, .int .i64 0, .int .i64 0, .slice none 0 0, .slice none 0 0, .int .i64 0] 61 (0, 0))) := (g1.block r (blk_in' X0.out) (by have := NG.out; intro q; cases q; exact this rfl)).trans X0.out
  have S1 : Hid (r < w1.heap.size) := blk_in' X1.out
  clear h1 g1 R0 G0 X0 S0 D1
  go_wp2_with (go_at_call 88; refine (D2.out _ R1.out).mono ?_)
  first | (rintro e w2 ⟨he, h1, g1⟩; have he' := he) | (rintro e w2 he h1 g1)
  subst he
  have R2 : Hid (Rd g kb o c bs s2 w2) := h1
  have G2 : Hid (w.grownBy w2 (some g)) := gb_trans G1.out g1
  have X2 : Hid (w2.heap[r]? = some (.cells #[.string ⟨#[]⟩, .int .i64 0, .int .i64 0, .int .i64 0, .slice none 0 0, .slice none 0 0, .int .i64 0] 61 (0, 0))) := (g1.block r (blk_in' X1.out) (by have := NG.out; intro q; cases q; exact this rfl)).trans X1.out
  have S2 : Hid (r < w2.heap.size) := blk_in' X2.out
  clear h1 g1 R1 G1 X1 S1 D2
  go_wp2_with (go_at_call 88; refine (D3.out _ R2.out).mono ?_)
  first | (rintro e w3 ⟨he, h1, g1⟩; have he' := he) | (rintro e w3 he h1 g1)
  subst he
  have R3 : Hid (Rd g kb o c bs s3 w3) := h1
  have G3 : Hid (w.grownBy w3 (some g)) := gb_trans G2.out g1
  have X3 : Hid (w3.heap[r]? = some (.cells #[.string ⟨#[]⟩, .int .i64 0, .int .i64 0, .int .i64 0, .slice none 0 0, .slice none 0 0, .int .i64 0] 61 (0, 0))) := (g1.block r (blk_in' X2.out) (by have := NG.out; intro q; cases q; exact this rfl)).trans X2.out
  have S3 : Hid (r < w3.heap.size) := blk_in' X3.out
  clear h1 g1 R2 G2 X2 S2 D3
  go_wp2_with (go_at_call 88; refine (D4.out _ R3.out).mono ?_)
  first | (rintro e w4 ⟨he, h1, g1⟩; have he' := he) | (rintro e w4 he h1 g1)
  subst he
  have R4 : Hid (Rd g kb o c bs s4 w4) := h1
  have G4 : Hid (w.grownBy w4 (some g)) := gb_trans G3.out g1
  have X4 : Hid (w4.heap[r]? = some (.cells #[.string ⟨#[]⟩, .int .i64 0, .int .i64 0, .int .i64 0, .slice none 0 0, .slice none 0 0, .int .i64 0] 61 (0, 0))) := (g1.block r (blk_in' X3.out) (by have := NG.out; intro q; cases q; exact this rfl)).trans X3.out
  have S4 : Hid (r < w4.heap.size) := blk_in' X4.out
  clear h1 g1 R3 G3 X3 S3 D4
  go_wp2_with (go_at_call 94; refine (D5.out _ R4.out).mono ?_)
  first | (rintro e w5 ⟨⟨y5, c5, he, q1⟩, h1, g1⟩; have he' := he) | (rintro e w5 y5 c5 he q1 h1 g1)
  subst he
  have R5 : Hid (Rd g kb o c bs s5 w5) := h1
  have G5 : Hid (w.grownBy w5 (some g)) := gb_trans G4.out g1
  have X5 : Hid (w5.heap[r]? = some (.cells #[.string ⟨#[]⟩, .int .i64 0, .int .i64 0, .int .i64 0, .slice none 0 0, .slice none 0 0, .int .i64 0] 61 (0, 0))) := (g1.block r (blk_in' X4.out) (by have := NG.out; intro q; cases q; exact this rfl)).trans X4.out
  have S5 : Hid (r < w5.heap.size) := blk_in' X5.out
  have Q5_5 : Hid (RwF 1 ((fun S w => Is inC) (Fresh (r + 1) w5.heap.size) w5) (Fresh (r + 1) w5.heap.size) w5 y5 v5) := RwF.subK (keptI _) (up_sub' S4.out (Nat.le_refl _)) q1
  clear q1
  clear h1 g1 R4 G4 X4 S4 D5
  go_wp2_with (go_at_call 94; refine (D6.out _ R5.out).mono ?_)
  first | (rintro e w6 ⟨⟨y6, c6, he, q1⟩, h1, g1⟩; have he' := he) | (rintro e w6 y6 c6 he q1 h1 g1)
  subst he
  have R6 : Hid (Rd g kb o c bs s6 w6) := h1
  have G6 : Hid (w.grownBy w6 (some g)) := gb_trans G5.out g1
  have X6 : Hid (w6.heap[r]? = some (.cells #[.string ⟨#[]⟩, .int .i64 0, .int .i64 0, .int .i64 0, .slice none 0 0, .slice none 0 0, .int .i64 0] 61 (0, 0))) := (g1.block r (blk_in' X5.out) (by have := NG.out; intro q; cases q; exact this rfl)).trans X5.out
  have S6 : Hid (r < w6.heap.size) := blk_in' X6.out
  have Q5_6 : Hid (RwF 1 ((fun S w => Is inC) (Fresh (r + 1) w6.heap.size) w6) (Fresh (r + 1) w6.heap.size) w6 y5 v5) := rw_keep (keptI _) Q5_5.out g1 (Nat.lt_succ_of_lt GR.out)
  clear Q5_5
  have Q6_6 : Hid (RwF 1 ((fun S w => Is inC) (Fresh (r + 1) w6.heap.size) w6) (Fresh (r + 1) w6.heap.size) w6 y6 v6) := RwF.subK (keptI _) (up_sub' S5.out (Nat.le_refl _)) q1
  clear q1
  clear h1 g1 R5 G5 X5 S5 D6
  go_wp2_with (go_at_call 88; refine (D7.out _ R6.out).mono ?_)
  first | (rintro e w7 ⟨he, h1, g1⟩; have he' := he) | (rintro e w7 he h1 g1)
  subst he
  have R7 : Hid (Rd g kb o c bs s7 w7) := h1
  have G7 : Hid (w.grownBy w7 (some g)) := gb_trans G6.out g1
  have X7 : Hid (w7.heap[r]? = some (.cells #[.string ⟨#[]⟩, .int .i64 0, .int .i64 0, .int .i64 0, .slice none 0 0, .slice none 0 0, .int .i64 0] 61 (0, 0))) := (g1.block r (blk_in' X6.out) (by have := NG.out; intro q; cases q; exact this rfl)).trans X6.out
  have S7 : Hid (r < w7.heap.size) := blk_in' X7.out
  have Q5_7 : Hid (RwF 1 ((fun S w => Is inC) (Fresh (r + 1) w7.heap.size) w7) (Fresh (r + 1) w7.heap.size) w7 y5 v5) := rw_keep (keptI _) Q5_6.out g1 (Nat.lt_succ_of_lt GR.out)
  clear Q5_6
  have Q6_7 : Hid (RwF 1 ((fun S w => Is inC) (Fresh (r + 1) w7.heap.size) w7) (Fresh (r + 1) w7.heap.size) w7 y6 v6) := rw_keep (keptI _) Q6_6.out g1 (Nat.lt_succ_of_lt GR.out)
  clear Q6_6
  clear h1 g1 R6 G6 X6 S6 D7
  go_wp2_with (refine wpList_store_row rfl 61 _ _ rfl r _ rfl rfl _ _ X7.out (show (Tryz.prog.info? 61).map (·.size) = some 7 by kernel_rfl) rfl (by kernel_rfl) ?_)
  have hz := setRow_heap w7 r _ (#[.string v1, .int .i64 v2, .int .i64 v3, .int .i64 v4, .slice y5 v5.length c5, .slice y6 v6.length c6, .int .i64 v7]) _ _ X7.out
  refine bodyPost_ret (v := .agg #[.string v1, .int .i64 v2, .int .i64 v3, .int .i64 v4, .slice y5 v5.length c5, .slice y6 v6.length c6, .int .i64 v7]) (results_cell_row Tryz.results75 _ _ r _ _ (0, 0) _ (by first | rfl | simp [Act.put]) hz Tryz.underlying61 rfl (show (Tryz.prog.info? 61).map (·.size) = some 7 by kernel_rfl)) rfl ?_
  exact ⟨⟨y5, c5, y6, c6, rfl, rw_row (keptI _) Q5_7.out RG.out, rw_row (keptI _) Q6_7.out RG.out⟩, R7.out.row NG.out NK.out _, gb_row G7.out RG.out _⟩
set_option maxRecDepth 20000 in
set_option maxHeartbeats 8000000 in
theorem imageG (g kb o c : Nat) (bs : List Nat) (s s1 s2 s3 s4 : RS) (v1 : ByteArray) (v2 : List CeR) (v3 : List FlR) (v4 : List JbR)
    (C1 : ∀ W, Rd g kb o c bs s W → Calls Tryz.prog 69 #[.pointer (some ⟨g, 0, none⟩)] W fun e w' => e = .returned (.string v1) ∧ Rd g kb o c bs s1 w' ∧ W.grownBy w' (some g))
    (C2 : ∀ W, Rd g kb o c bs s1 W → Calls Tryz.prog 70 #[.pointer (some ⟨g, 0, none⟩), .func (.func 71) #[.pointer (some ⟨g, 0, none⟩)] #[]] W fun e w' => (∃ y k, e = .returned (.slice y v2.length k) ∧ RwF 11 ((fun S w => Is ceC) (Fresh W.heap.size w'.heap.size) w') (Fresh W.heap.size w'.heap.size) w' y v2) ∧ Rd g kb o c bs s2 w' ∧ W.grownBy w' (some g))
    (C3 : ∀ W, Rd g kb o c bs s2 W → Calls Tryz.prog 72 #[.pointer (some ⟨g, 0, none⟩), .func (.func 73) #[.pointer (some ⟨g, 0, none⟩)] #[]] W fun e w' => (∃ y k, e = .returned (.slice y v3.length k) ∧ RwF 8 (FlP (Fresh W.heap.size w'.heap.size) w') (Fresh W.heap.size w'.heap.size) w' y v3) ∧ Rd g kb o c bs s3 w' ∧ W.grownBy w' (some g))
    (C4 : ∀ W, Rd g kb o c bs s3 W → Calls Tryz.prog 74 #[.pointer (some ⟨g, 0, none⟩), .func (.func 75) #[.pointer (some ⟨g, 0, none⟩)] #[]] W fun e w' => (∃ y k, e = .returned (.slice y v4.length k) ∧ RwF 7 (JbP (Fresh W.heap.size w'.heap.size) w') (Fresh W.heap.size w'.heap.size) w' y v4) ∧ Rd g kb o c bs s4 w' ∧ W.grownBy w' (some g))
    (w : World) (h : Rd g kb o c bs s w) :
    Calls Tryz.prog 41 #[.pointer (some ⟨g, 0, none⟩)] w fun e w' => (∃ y2 c2 y3 c3 y4 c4, e = .returned (.agg #[.string v1, .slice y2 v2.length c2, .slice y3 v3.length c3, .slice y4 v4.length c4]) ∧ RwF 11 ((fun S w => Is ceC) (Fresh w.heap.size w'.heap.size) w') (Fresh w.heap.size w'.heap.size) w' y2 v2 ∧ RwF 8 (FlP (Fresh w.heap.size w'.heap.size) w') (Fresh w.heap.size w'.heap.size) w' y3 v3 ∧ RwF 7 (JbP (Fresh w.heap.size w'.heap.size) w') (Fresh w.heap.size w'.heap.size) w' y4 v4) ∧ Rd g kb o c bs s4 w' ∧ w.grownBy w' (some g) := by
  obtain ⟨r, hr⟩ : ∃ r, w.heap.size = r := ⟨_, rfl⟩
  obtain ⟨AW, eW⟩ : ∃ AW, AW = w.alloc (.cells #[.string ⟨#[]⟩, .slice none 0 0, .slice none 0 0, .slice none 0 0] 26 (0, 0)) := ⟨_, rfl⟩
  have R0 : Hid (Rd g kb o c bs s AW) := by rw [eW]; exact h.al _
  have G0 : Hid (w.grownBy AW (some g)) := by rw [eW]; exact gb_alloc _ _ _
  have X0 : Hid (AW.heap[r]? = some (.cells #[.string ⟨#[]⟩, .slice none 0 0, .slice none 0 0, .slice none 0 0] 26 (0, 0))) := by rw [eW, ← hr]; exact heap_alloc_last _ _
  have NG : Hid (r ≠ g) := by have := h.lt; show r ≠ g; omega
  have RG : Hid (w.heap.size ≤ r) := by show _ ≤ _; omega
  have GR : Hid (g < r) := by have := h.lt; show _ < _; omega
  have NK : Hid (r ≠ kb) := by have := h.kl; show r ≠ kb; omega
  have S0 : Hid (r < AW.heap.size) := blk_in' X0.out
  have D1 : Hid _ := C1
  have D2 : Hid _ := C2
  have D3 : Hid _ := C3
  have D4 : Hid _ := C4
  clear h C1 C2 C3 C4
  go_enter Tryz.func41, Tryz.ntmps41
  go_upto_region 1 with fail
  rw [← eW]
  try rw [hr]
  clear eW hr
  go_wp2_with (go_at_call 69; refine (D1.out _ R0.out).mono ?_)
  first | (rintro e w1 ⟨he, h1, g1⟩; have he' := he) | (rintro e w1 he h1 g1)
  subst he
  have R1 : Hid (Rd g kb o c bs s1 w1) := h1
  have G1 : Hid (w.grownBy w1 (some g)) := gb_trans G0.out g1
  have X1 : Hid (w1.heap[r]? = some (.cells #[.string ⟨#[]⟩, .slice none 0 0, .slice none 0 0, .slice none 0 0] 26 (0, 0))) := (g1.block r (blk_in' X0.out) (by have := NG.out; intro q; cases q; exact this rfl)).trans X0.out
  have S1 : Hid (r < w1.heap.size) := blk_in' X1.out
  clear h1 g1 R0 G0 X0 S0 D1
  go_wp2_with (go_at_call 70; refine (D2.out _ R1.out).mono ?_)
  first | (rintro e w2 ⟨⟨y2, c2, he, q1⟩, h1, g1⟩; have he' := he) | (rintro e w2 y2 c2 he q1 h1 g1)
  subst he
  have R2 : Hid (Rd g kb o c bs s2 w2) := h1
  have G2 : Hid (w.grownBy w2 (some g)) := gb_trans G1.out g1
  have X2 : Hid (w2.heap[r]? = some (.cells #[.string ⟨#[]⟩, .slice none 0 0, .slice none 0 0, .slice none 0 0] 26 (0, 0))) := (g1.block r (blk_in' X1.out) (by have := NG.out; intro q; cases q; exact this rfl)).trans X1.out
  have S2 : Hid (r < w2.heap.size) := blk_in' X2.out
  have Q2_2 : Hid (RwF 11 ((fun S w => Is ceC) (Fresh (r + 1) w2.heap.size) w2) (Fresh (r + 1) w2.heap.size) w2 y2 v2) := RwF.subK (keptI _) (up_sub' S1.out (Nat.le_refl _)) q1
  clear q1
  clear h1 g1 R1 G1 X1 S1 D2
  go_wp2_with (go_at_call 72; refine (D3.out _ R2.out).mono ?_)
  first | (rintro e w3 ⟨⟨y3, c3, he, q1⟩, h1, g1⟩; have he' := he) | (rintro e w3 y3 c3 he q1 h1 g1)
  subst he
  have R3 : Hid (Rd g kb o c bs s3 w3) := h1
  have G3 : Hid (w.grownBy w3 (some g)) := gb_trans G2.out g1
  have X3 : Hid (w3.heap[r]? = some (.cells #[.string ⟨#[]⟩, .slice none 0 0, .slice none 0 0, .slice none 0 0] 26 (0, 0))) := (g1.block r (blk_in' X2.out) (by have := NG.out; intro q; cases q; exact this rfl)).trans X2.out
  have S3 : Hid (r < w3.heap.size) := blk_in' X3.out
  have Q2_3 : Hid (RwF 11 ((fun S w => Is ceC) (Fresh (r + 1) w3.heap.size) w3) (Fresh (r + 1) w3.heap.size) w3 y2 v2) := rw_keep (keptI _) Q2_2.out g1 (Nat.lt_succ_of_lt GR.out)
  clear Q2_2
  have Q3_3 : Hid (RwF 8 (FlP (Fresh (r + 1) w3.heap.size) w3) (Fresh (r + 1) w3.heap.size) w3 y3 v3) := RwF.subK keptF (up_sub' S2.out (Nat.le_refl _)) q1
  clear q1
  clear h1 g1 R2 G2 X2 S2 D3
  go_wp2_with (go_at_call 74; refine (D4.out _ R3.out).mono ?_)
  first | (rintro e w4 ⟨⟨y4, c4, he, q1⟩, h1, g1⟩; have he' := he) | (rintro e w4 y4 c4 he q1 h1 g1)
  subst he
  have R4 : Hid (Rd g kb o c bs s4 w4) := h1
  have G4 : Hid (w.grownBy w4 (some g)) := gb_trans G3.out g1
  have X4 : Hid (w4.heap[r]? = some (.cells #[.string ⟨#[]⟩, .slice none 0 0, .slice none 0 0, .slice none 0 0] 26 (0, 0))) := (g1.block r (blk_in' X3.out) (by have := NG.out; intro q; cases q; exact this rfl)).trans X3.out
  have S4 : Hid (r < w4.heap.size) := blk_in' X4.out
  have Q2_4 : Hid (RwF 11 ((fun S w => Is ceC) (Fresh (r + 1) w4.heap.size) w4) (Fresh (r + 1) w4.heap.size) w4 y2 v2) := rw_keep (keptI _) Q2_3.out g1 (Nat.lt_succ_of_lt GR.out)
  clear Q2_3
  have Q3_4 : Hid (RwF 8 (FlP (Fresh (r + 1) w4.heap.size) w4) (Fresh (r + 1) w4.heap.size) w4 y3 v3) := rw_keep keptF Q3_3.out g1 (Nat.lt_succ_of_lt GR.out)
  clear Q3_3
  have Q4_4 : Hid (RwF 7 (JbP (Fresh (r + 1) w4.heap.size) w4) (Fresh (r + 1) w4.heap.size) w4 y4 v4) := RwF.subK keptJ (up_sub' S3.out (Nat.le_refl _)) q1
  clear q1
  clear h1 g1 R3 G3 X3 S3 D4
  go_wp2_with (refine wpList_store_row rfl 26 _ _ rfl r _ rfl rfl _ _ X4.out (show (Tryz.prog.info? 26).map (·.size) = some 4 by kernel_rfl) rfl (by kernel_rfl) ?_)
  have hz := setRow_heap w4 r _ (#[.string v1, .slice y2 v2.length c2, .slice y3 v3.length c3, .slice y4 v4.length c4]) _ _ X4.out
  refine bodyPost_ret (v := .agg #[.string v1, .slice y2 v2.length c2, .slice y3 v3.length c3, .slice y4 v4.length c4]) (results_cell_row Tryz.results41 _ _ r _ _ (0, 0) _ (by first | rfl | simp [Act.put]) hz Tryz.underlying26 rfl (show (Tryz.prog.info? 26).map (·.size) = some 4 by kernel_rfl)) rfl ?_
  exact ⟨⟨y2, c2, y3, c3, y4, c4, rfl, rw_row (keptI _) Q2_4.out RG.out, rw_row keptF Q3_4.out RG.out, rw_row keptJ Q4_4.out RG.out⟩, R4.out.row NG.out NK.out _, gb_row G4.out RG.out _⟩
end Go.Proofs.YtkickdmomompjaaGreat
namespace Go.Proofs.YtkickdmomompjaaGreat
set_option linter.unusedVariables false
open Go.RowKit
def rdV (bs : List Nat) (s : RS) : (Nat × Int × ByteArray) × RS :=
  (((rdB bs s).1, IntKind.u64.wrap (rdN bs (rdB bs s).2).1, (rdT bs (rdN bs (rdB bs s).2).2).1), (rdT bs (rdN bs (rdB bs s).2).2).2)
/-- So many numbers, one behind the other. -/
def rdNs (bs : List Nat) : Nat → RS → RS
  | 0, s => s
  | k + 1, s => (rdN bs (rdNs bs k s)).2
def rdOp (bs : List Nat) (s : RS) : OpR × RS :=
  (⟨(rdN bs s).1, (rdN bs (rdNs bs 1 s)).1, (rdN bs (rdNs bs 2 s)).1, (rdN bs (rdNs bs 3 s)).1, (rdN bs (rdNs bs 4 s)).1, (rdN bs (rdNs bs 5 s)).1, (rdN bs (rdNs bs 6 s)).1, (rdV bs (rdNs bs 7 s)).1.1, (rdV bs (rdNs bs 7 s)).1.2.1, (rdV bs (rdNs bs 7 s)).1.2.2⟩, (rdV bs (rdNs bs 7 s)).2)
/-- Where a cell's parts begin. -/
def kceA (bs : List Nat) (s : RS) : RS := (rdF bs (rdB bs s).2).2
def kceB (bs : List Nat) (s : RS) : RS := rdNs bs 3 (kceA bs s)
def kceD (bs : List Nat) (s : RS) : RS := (rdV bs (kceB bs s)).2
def kceE (bs : List Nat) (s : RS) : RS := (rdF bs (kceD bs s)).2
def kceF (bs : List Nat) (s : RS) : RS := (rdB bs (kceE bs s)).2
def rdCe (bs : List Nat) (s : RS) : CeR × RS :=
  (⟨(rdB bs s).1, (rdF bs (rdB bs s).2).1, (rdN bs (kceA bs s)).1, (rdN bs (rdNs bs 1 (kceA bs s))).1, (rdN bs (rdNs bs 2 (kceA bs s))).1, (rdV bs (kceB bs s)).1.1, (rdV bs (kceB bs s)).1.2.1, (rdV bs (kceB bs s)).1.2.2, (rdF bs (kceD bs s)).1, (rdB bs (kceE bs s)).1, (rdT bs (kceF bs s)).1⟩, (rdT bs (kceF bs s)).2)
def kflA (bs : List Nat) (s : RS) : RS := (rdT bs s).2
def kflB (bs : List Nat) (s : RS) : RS := rdNs bs 5 (kflA bs s)
def kflD (bs : List Nat) (s : RS) : RS := (rdL (rdOp bs) bs (kflB bs s)).2
def rdFl (bs : List Nat) (s : RS) : FlR × RS :=
  (⟨(rdT bs s).1, (rdN bs (kflA bs s)).1, (rdN bs (rdNs bs 1 (kflA bs s))).1, (rdN bs (rdNs bs 2 (kflA bs s))).1, (rdN bs (rdNs bs 3 (kflA bs s))).1, (rdN bs (rdNs bs 4 (kflA bs s))).1, (rdL (rdOp bs) bs (kflB bs s)).1, (rdL (rdLp bs) bs (kflD bs s)).1⟩, (rdL (rdLp bs) bs (kflD bs s)).2)
def kjbA (bs : List Nat) (s : RS) : RS := (rdT bs s).2
def kjbB (bs : List Nat) (s : RS) : RS := rdNs bs 3 (kjbA bs s)
def kjbD (bs : List Nat) (s : RS) : RS := (rdL (rdN bs) bs (kjbB bs s)).2
def kjbE (bs : List Nat) (s : RS) : RS := (rdL (rdN bs) bs (kjbD bs s)).2
def rdJb (bs : List Nat) (s : RS) : JbR × RS :=
  (⟨(rdT bs s).1, (rdN bs (kjbA bs s)).1, (rdN bs (rdNs bs 1 (kjbA bs s))).1, (rdN bs (rdNs bs 2 (kjbA bs s))).1, (rdL (rdN bs) bs (kjbB bs s)).1, (rdL (rdN bs) bs (kjbD bs s)).1, (rdN bs (kjbE bs s)).1⟩, (rdN bs (kjbE bs s)).2)
def kimA (bs : List Nat) (s : RS) : RS := (rdT bs s).2
def kimB (bs : List Nat) (s : RS) : RS := (rdL (rdCe bs) bs (kimA bs s)).2
def kimD (bs : List Nat) (s : RS) : RS := (rdL (rdFl bs) bs (kimB bs s)).2
def rdIm (bs : List Nat) (s : RS) : ImR × RS :=
  (⟨(rdT bs s).1, (rdL (rdCe bs) bs (kimA bs s)).1, (rdL (rdFl bs) bs (kimB bs s)).1, (rdL (rdJb bs) bs (kimD bs s)).1⟩, (rdL (rdJb bs) bs (kimD bs s)).2)
theorem rdB_lt {bs : List Nat} (s : RS) (h : ∀ v ∈ bs, v < 256) : (rdB bs s).1 < 256 := by
  unfold rdB
  split
  · rename_i q
    rw [List.getD_eq_getElem?_getD, List.getElem?_eq_getElem q.2]
    exact h _ (List.getElem_mem _)
  · show 0 < 256; omega
section
variable (g kb o c : Nat) (bs : List Nat)
theorem loopM : RdM 93 g kb o c bs (fun s => .agg #[.int .i64 (rdLp bs s).1.hd, .int .i64 (rdLp bs s).1.en, .int .i64 (rdLp bs s).1.tm]) (fun s => (rdLp bs s).2) :=
  fun s w h => loopG g kb o c bs s _ _ _ _ _ _ (numM g kb o c bs s) (numM g kb o c bs _) (numM g kb o c bs _) w h
theorem valueM : RdM 89 g kb o c bs (fun s => .agg #[.int .u8 (rdV bs s).1.1, .int .u64 (rdV bs s).1.2.1, .string (rdV bs s).1.2.2]) (fun s => (rdV bs s).2) :=
  fun s w h => valueG g kb o c bs s _ _ _ _ _ _ _ rfl (rawM g kb o c bs s) (numM g kb o c bs _) (txtM g kb o c bs _) w h
theorem opM : RdM 91 g kb o c bs (fun s => .agg #[.int .i64 (rdOp bs s).1.cd, .int .i64 (rdOp bs s).1.a, .int .i64 (rdOp bs s).1.b, .int .i64 (rdOp bs s).1.c, .int .i64 (rdOp bs s).1.d, .int .i64 (rdOp bs s).1.lo, .int .i64 (rdOp bs s).1.hi, .int .u8 (rdOp bs s).1.vk, .int .u64 (rdOp bs s).1.vb, .string (rdOp bs s).1.vs]) (fun s => (rdOp bs s).2) :=
  fun s w h => opG g kb o c bs s (rdNs bs 1 s) (rdNs bs 2 s) (rdNs bs 3 s) (rdNs bs 4 s) (rdNs bs 5 s) (rdNs bs 6 s) (rdNs bs 7 s) _ _ _ _ _ _ _ _ (rdV bs (rdNs bs 7 s)).1 (numM g kb o c bs s) (numM g kb o c bs _) (numM g kb o c bs _) (numM g kb o c bs _) (numM g kb o c bs _) (numM g kb o c bs _) (numM g kb o c bs _) (valueM g kb o c bs _) w h
theorem cellM : RdM 71 g kb o c bs (fun s => .agg #[.int .u8 (rdCe bs s).1.kd, .bool (rdCe bs s).1.sb, .int .i64 (rdCe bs s).1.lo, .int .i64 (rdCe bs s).1.hi, .int .i64 (rdCe bs s).1.mx, .int .u8 (rdCe bs s).1.ik, .int .u64 (rdCe bs s).1.ib, .string (rdCe bs s).1.is, .bool (rdCe bs s).1.kp, .int .i64 (rdCe bs s).1.dr, .string (rdCe bs s).1.ad]) (fun s => (rdCe bs s).2) :=
  fun s w h => cellG g kb o c bs s (rdB bs s).2 (kceA bs s) (rdNs bs 1 (kceA bs s)) (rdNs bs 2 (kceA bs s)) (kceB bs s) (kceD bs s) (kceE bs s) (kceF bs s) (rdT bs (kceF bs s)).2 _ _ _ _ _ (rdV bs (kceB bs s)).1 _ (rdB bs (kceE bs s)).1 _ (by have := rdB_lt (kceE bs s) h.b8; unfold wrap64; omega) (rawM g kb o c bs s) (flgM g kb o c bs _) (numM g kb o c bs _) (numM g kb o c bs _) (numM g kb o c bs _) (valueM g kb o c bs _) (flgM g kb o c bs _) (rawM g kb o c bs _) (txtM g kb o c bs _) w h
theorem codeM (s : RS) (w : World) (h : Rd g kb o c bs s w) : Calls Tryz.prog 73 #[.pointer (some ⟨g, 0, none⟩)] w fun e w' => (∃ x1 c1 x2 c2, e = .returned (.agg (flC (rdFl bs s).1 (.slice x1 (rdFl bs s).1.os.length c1) (.slice x2 (rdFl bs s).1.ls.length c2)).toArray) ∧ FlQ (Fresh w.heap.size w'.heap.size) w' (rdFl bs s).1 x1 x2) ∧ Rd g kb o c bs (rdFl bs s).2 w' ∧ w.grownBy w' (some g) :=
  (codeG g kb o c bs s (kflA bs s) (rdNs bs 1 (kflA bs s)) (rdNs bs 2 (kflA bs s)) (rdNs bs 3 (kflA bs s)) (rdNs bs 4 (kflA bs s)) (kflB bs s) (kflD bs s) (rdFl bs s).2 _ _ _ _ _ _ _ _ (txtM g kb o c bs s) (numM g kb o c bs _) (numM g kb o c bs _) (numM g kb o c bs _) (numM g kb o c bs _) (numM g kb o c bs _) (RlO g kb o c bs (rdOp bs) (opM _ _ _ _ _) _) (RlL g kb o c bs (rdLp bs) (loopM _ _ _ _ _) _) w h).mono
    fun e w' ⟨⟨y1, c1, y2, c2, he, q1, q2⟩, h1, g1⟩ => ⟨⟨y1, c1, y2, c2, he, q1, q2⟩, h1, g1⟩
theorem jobM (s : RS) (w : World) (h : Rd g kb o c bs s w) : Calls Tryz.prog 75 #[.pointer (some ⟨g, 0, none⟩)] w fun e w' => (∃ x1 c1 x2 c2, e = .returned (.agg (jbC (rdJb bs s).1 (.slice x1 (rdJb bs s).1.cs.length c1) (.slice x2 (rdJb bs s).1.bs.length c2)).toArray) ∧ JbQ (Fresh w.heap.size w'.heap.size) w' (rdJb bs s).1 x1 x2) ∧ Rd g kb o c bs (rdJb bs s).2 w' ∧ w.grownBy w' (some g) :=
  (jobG g kb o c bs s (kjbA bs s) (rdNs bs 1 (kjbA bs s)) (rdNs bs 2 (kjbA bs s)) (kjbB bs s) (kjbD bs s) (kjbE bs s) (rdJb bs s).2 _ _ _ _ _ _ _ (txtM g kb o c bs s) (numM g kb o c bs _) (numM g kb o c bs _) (numM g kb o c bs _) (RlN g kb o c bs (rdN bs) (numM g kb o c bs) _) (RlN g kb o c bs (rdN bs) (numM g kb o c bs) _) (numM g kb o c bs _) w h).mono
    fun e w' ⟨⟨y1, c1, y2, c2, he, q1, q2⟩, h1, g1⟩ => ⟨⟨y1, c1, y2, c2, he, q1, q2⟩, h1, g1⟩
end
end Go.Proofs.YtkickdmomompjaaGreat
