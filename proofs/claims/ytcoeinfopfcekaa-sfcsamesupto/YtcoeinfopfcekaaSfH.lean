/- The document's sameness of names and steps, and an expression as a statement; no statement of the seat is proved here. -/
import Derived.Test.YtcoeinfopfcekaaSfF
import Derived.Handy
namespace Go.Proofs.Ytcoeinfopfcekaa
set_option linter.unusedVariables false
set_option linter.unusedSimpArgs false
open Go.RowKit
set_option maxHeartbeats 2000000 in
theorem namesD (x y : Option Addr) (l l' : List ByteArray) (c d : Nat) (w : World) (ha : NmAt w x l) (hb : NmAt w y l') (hl : l.length < 1099511627776) :
    Calls Try.prog 19 #[.slice x l.length c, .slice y l'.length d] w fun e w' => e = .returned (.bool (decide (l = l'))) ∧ Below w.heap.size w w' := by
  have HA : Hid (NmAt w x l) := ha
  have HB : Hid (NmAt w y l') := hb
  have HL : Hid _ := hl
  clear ha hb hl
  by_cases el : l.length = l'.length
  · have el' : ((l.length : Int) == (l'.length : Int)) = true := by rw [beq_iff_eq]; omega
    have el2 : ((l.length : Int) != (l'.length : Int)) = false := by simp [bne, el']
    have EL : Hid _ := el
    generalize hn : l'.length = n at *
    have HN : Hid _ := hn
    clear hn
    subst el
    clear el' el2
    go_enter Try.func19, Try.ntmps19
    go_wp2_with fail
    go_loopw [5] (fun i wr => ∃ k : Nat, k ≤ l.length ∧ i = .int .i64 k ∧ Below w.heap.size w wr ∧ ∀ j, j < k → l[j]? = l'[j]?) (fun i _ => l.length - (intOf i).toNat)
    case atStart => exact ⟨0, Nat.zero_le _, rfl, Below.refl _ _, fun j hj => absurd hj (Nat.not_lt_zero _)⟩
    case round =>
      obtain ⟨k, hk, rfl, hbw, hall⟩ := hrel
      have HW : Hid (Below w.heap.size w wr) := hbw
      have AL : Hid _ := hall
      clear hall
      by_cases hlt : k < l.length
      · obtain ⟨a, rfl⟩ := HA.out.some (by omega)
        obtain ⟨b, rfl⟩ := HB.out.some (by have := HN.out; omega)
        obtain ⟨s, es, e0⟩ := HA.out.cell k hlt
        obtain ⟨t, et, e1⟩ := HB.out.cell k (by have := HN.out; omega)
        have e0 := (hbw.cell (block_lt_of_cell e0)).trans e0
        have e1 := (hbw.cell (block_lt_of_cell e1)).trans e1
        have ES : Hid (l[k]? = some s) := es
        have ET : Hid (l'[k]? = some t) := et
        have LT : Hid _ := hlt
        have kl : (k : Int) < l.length := by omega
        clear hbw es et hlt
        have za := block_lt_of_cell e0
        have zb := block_lt_of_cell e1
        by_cases q : s = t
        · subst q
          go_wp2_with fail
          have cy : ∀ x : Sub wr, x.w.cell? (a.add k) = some (.string s) := fun x => (x.h.cell za).trans e0
          have cz : ∀ x : Sub wr, x.w.cell? (b.add k) = some (.string s) := fun x => (x.h.cell zb).trans e1
          refine wp_region_sub2 (by kernel_rfl) (by kernel_rfl) ?_
          intro cx
          repeat (first | go_big_quiet_skip | (go_big_quiet_want; go_big_quiet_op; first | go_big_quiet_on | (refine ⟨_, fun _ => rfl, ?_⟩; go_big_quiet_on)))
          refine wpQuiet_nil ?_
          rintro _ ⟨y, rfl⟩
          have Y : Hid (Below wr.heap.size wr y.w) := y.h
          clear cx cy cz
          have ew : wrap64 ((k : Int) + 1) = (k : Int) + 1 := by have := HL.out; have := LT.out; unfold wrap64; omega
          go_wp2
          rw [ew]
          exact ⟨⟨k + 1, Nat.succ_le_of_lt LT.out, rfl, HW.out.trans (Y.out.mono HW.out.size), fun j hj => by rcases Nat.lt_succ_iff_lt_or_eq.1 hj with h | rfl; exact AL.out j h; exact ES.out.trans ET.out.symm⟩, msr LT.out⟩
        · have sq : (s.toList == t.toList) = false := by
            apply Bool.eq_false_iff.2
            intro e
            exact q (ba_ext (by simpa using e))
          have sq2 : (s.toList != t.toList) = true := by simp [bne, sq]
          have Q : Hid _ := q
          clear q
          go_wp2_with fail
          have cy : ∀ x : Sub wr, x.w.cell? (a.add k) = some (.string s) := fun x => (x.h.cell za).trans e0
          have cz : ∀ x : Sub wr, x.w.cell? (b.add k) = some (.string t) := fun x => (x.h.cell zb).trans e1
          refine wp_region_sub2 (by kernel_rfl) (by kernel_rfl) ?_
          intro cx
          repeat (first | go_big_quiet_skip | (go_big_quiet_want; go_big_quiet_op; first | go_big_quiet_on | (refine ⟨_, fun _ => rfl, ?_⟩; go_big_quiet_on)))
          refine wpQuiet_nil ?_
          rintro _ ⟨y, rfl⟩
          have Y : Hid (Below w.heap.size w y.w) := HW.out.trans (y.h.mono HW.out.size)
          clear cx cy cz
          have ed : decide (l = l') = false := decide_eq_false fun e => Q.out (by have a := ES.out; rw [e, ET.out] at a; exact (Option.some.inj a).symm)
          go_wp2
          go_ret
          exact ⟨by first | rfl | (rw [ed]; rfl), Y.out⟩
      · have kl : ¬ (k : Int) < l.length := by omega
        have ed : decide (l = l') = true := decide_eq_true (List.ext_getElem? fun j => by
          by_cases hj : j < k
          · exact AL.out j hj
          · have := HN.out
            rw [List.getElem?_eq_none (by omega), List.getElem?_eq_none (by omega)])
        clear hbw hlt
        go_wp2
        go_ret
        exact ⟨by first | rfl | (rw [ed]; rfl), HW.out⟩
  · have el' : ((l.length : Int) == (l'.length : Int)) = false := by rw [beq_eq_false_iff_ne]; omega
    have el2 : ((l.length : Int) != (l'.length : Int)) = true := by simp [bne, el']
    have ed : decide (l = l') = false := decide_eq_false fun e => el (by rw [e])
    clear el
    go_enter Try.func19, Try.ntmps19
    go_wp2
    go_ret
    exact ⟨by first | rfl | (rw [ed]; rfl), Below.refl _ _⟩
theorem neLk_t (o : Int) (e e' : LkR) (h : smLk e e' = true) (w : World) : (binOp .neq 34 (.agg #[.int .i64 o, .string e.ql, .int .i64 e.tm, .string e.nm]) (.agg #[.int .i64 o, .string e'.ql, .int .i64 e'.tm, .string e'.nm])).run Try.prog w = .ok (.bool false) w := by
  unfold smLk at h
  simp only [Bool.and_eq_true, beq_iff_eq] at h
  obtain ⟨⟨h1, h2⟩, h3⟩ := h
  have h1 := ba_ext h1
  have h3 := ba_ext h3
  simp [go_sem, h1, h2, h3]
theorem neLk_f (o : Int) (e e' : LkR) (h : smLk e e' = false) (w : World) : (binOp .neq 34 (.agg #[.int .i64 o, .string e.ql, .int .i64 e.tm, .string e.nm]) (.agg #[.int .i64 o, .string e'.ql, .int .i64 e'.tm, .string e'.nm])).run Try.prog w = .ok (.bool true) w := by
  obtain ⟨p, s1, s2, s3⟩ := e
  obtain ⟨p', t1, t2, t3⟩ := e'
  unfold smLk at h
  simp only at h ⊢
  by_cases e1 : s1 = t1
  case neg =>
    have n : ¬ s1.toList = t1.toList := fun e => e1 (ba_ext e)
    simp [go_sem, n]
  subst e1
  by_cases e2 : s2 = t2
  case neg => simp [go_sem, e2]
  subst e2
  by_cases e3 : s3 = t3
  case neg =>
    have n : ¬ s3.toList = t3.toList := fun e => e3 (ba_ext e)
    simp [go_sem, n]
  subst e3
  simp at h
set_option maxRecDepth 20000 in
set_option maxHeartbeats 4000000 in
theorem heldD (d : Nat) (t : TnR) (x3 x4 : Option Addr) (c3 c4 : Nat) (w : World) (k1 : KdF (fun b => b < w.heap.size) d w x3 t.ek) (k2 : NmF (fun b => b < w.heap.size) w x4 t.en) (f2 : few t.en.length) :
    Calls Try.prog 21 #[EV t.eh (.slice x3 t.ek.length c3) (.slice x4 t.en.length c4)] w fun e w' => (∃ g, e = .returned (.slice (some ⟨g, 0, none⟩) 1 1) ∧ StL (fun b => b < w'.heap.size) (d + 2) w' (some ⟨g, 0, none⟩) [cnd 12 t]) ∧ Below w.heap.size w w' := by
  have R3 : Hid (∀ X Y Z : Obj, Below w.heap.size w (((w.alloc X).alloc Y).alloc Z) ∧ (((w.alloc X).alloc Y).alloc Z).heap[w.heap.size + 1]? = some Y ∧ (((w.alloc X).alloc Y).alloc Z).heap[w.heap.size + 2]? = some Z ∧ (((w.alloc X).alloc Y).alloc Z).heap.size = w.heap.size + 3) := rows3 w
  have HK : Hid (KdF (fun b => b < w.heap.size) d w x3 t.ek) := k1
  have HN : Hid (NmF (fun b => b < w.heap.size) w x4 t.en) := k2
  have HF : Hid (few t.en.length) := f2
  clear k1 k2 f2
  go_enter Try.func21, Try.ntmps21
  go_wp2
  go_ret
  obtain ⟨b0, b1, b2, b3⟩ := R3.out _ _ _
  refine ⟨⟨w.heap.size + 2, ?_, cnd_rows (g1 := w.heap.size + 1) (by rw [b3]; omega) (by rw [b3]; omega) b1 b2 ((HK.out.fr (old_fr b0)).sub (fun b q => Nat.lt_of_lt_of_le q b0.size)) ((HN.out.fr (old_fr b0)).sub (fun b q => Nat.lt_of_lt_of_le q b0.size)) HF.out⟩, b0⟩
  first | rfl | simp
set_option maxRecDepth 20000 in
set_option maxHeartbeats 8000000 in
theorem stepD (s s' : SpR) (x y : Option Addr) (c c' : Nat) (w : World) (h : RwF 4 (Is lkC) (fun b => b < w.heap.size) w x s.ls) (h' : RwF 4 (Is lkC) (fun b => b < w.heap.size) w y s'.ls) :
    Calls Try.prog 18 #[.agg (spC s (.slice x s.ls.length c)).toArray, .agg (spC s' (.slice y s'.ls.length c')).toArray] w fun e w' => e = .returned (.bool (smSp s s')) ∧ Below w.heap.size w w' := by
  unfold smSp
  have GR : Hid (∀ X Y : Obj, Below w.heap.size w ((w.alloc X).alloc Y)) := two_b w
  show Calls _ _ #[.agg #[.int .i64 s.pl, .string s.nm, .bool s.ini, .slice x s.ls.length c], .agg #[.int .i64 s'.pl, .string s'.nm, .bool s'.ini, .slice y s'.ls.length c']] _ _
  have HA : Hid (RwF 4 (Is lkC) (fun b => b < w.heap.size) w x s.ls) := h
  have HB : Hid (RwF 4 (Is lkC) (fun b => b < w.heap.size) w y s'.ls) := h'
  clear h h'
  cases f1 : (s.nm.toList == s'.nm.toList)
  · have g1 : (s.nm.toList != s'.nm.toList) = true := by simp [bne, f1]
    go_enter Try.func18, Try.ntmps18
    go_wp2
    go_ret
    exact ⟨by first | rfl | simp, GR.out _ _⟩
  have g1 : (s.nm.toList != s'.nm.toList) = false := by simp [bne, f1]
  cases f2 : (s.ini == s'.ini)
  · have g2 : (s.ini != s'.ini) = true := by simp [bne, f2]
    go_enter Try.func18, Try.ntmps18
    go_wp2
    go_ret
    exact ⟨by first | rfl | simp, GR.out _ _⟩
  have g2 : (s.ini != s'.ini) = false := by simp [bne, f2]
  by_cases el : s.ls.length = s'.ls.length
  case neg =>
    have el' : ((s.ls.length : Int) == (s'.ls.length : Int)) = false := by rw [beq_eq_false_iff_ne]; omega
    have el2 : ((s.ls.length : Int) != (s'.ls.length : Int)) = true := by simp [bne, el']
    have ed := smL_len smLk s.ls s'.ls el
    clear el
    go_enter Try.func18, Try.ntmps18
    go_wp2
    go_ret
    exact ⟨by first | rfl | (rw [ed]; rfl), GR.out _ _⟩
  case pos =>
    have el2 : ((s.ls.length : Int) != (s'.ls.length : Int)) = false := by simp [bne, el]
    have EL : Hid (s.ls.length = s'.ls.length) := el
    clear el
    obtain ⟨W, eW⟩ : ∃ W, W = (w.alloc (.cells #[.int .i64 s.pl, .string s.nm, .bool s.ini, .slice x s.ls.length c] 31 (0, 0))).alloc (.cells #[.int .i64 s'.pl, .string s'.nm, .bool s'.ini, .slice y s'.ls.length c'] 31 (0, 0)) := ⟨_, rfl⟩
    obtain ⟨gx, egx⟩ : ∃ n, n = w.heap.size := ⟨_, rfl⟩
    have WB : Hid (Below w.heap.size w W) := by rw [eW]; exact GR.out _ _
    have CA : Hid (∀ V, Below W.heap.size W V → V.cell? ⟨gx, 1, none⟩ = some (.string s.nm) ∧ V.cell? ⟨gx, 2, none⟩ = some (.bool s.ini) ∧ V.cell? ⟨gx, 3, none⟩ = some (.slice x s.ls.length c) ∧ V.cell? ⟨gx + 1, 1, none⟩ = some (.string s'.nm) ∧ V.cell? ⟨gx + 1, 2, none⟩ = some (.bool s'.ini) ∧ V.cell? ⟨gx + 1, 3, none⟩ = some (.slice y s'.ls.length c')) := fun V hV => by
      have z : gx < W.heap.size ∧ gx + 1 < W.heap.size := by rw [eW, egx]; simp <;> omega
      refine ⟨(hV.cell (p := ⟨gx, 1, none⟩) z.1).trans ?_, (hV.cell (p := ⟨gx, 2, none⟩) z.1).trans ?_, (hV.cell (p := ⟨gx, 3, none⟩) z.1).trans ?_, (hV.cell (p := ⟨gx + 1, 1, none⟩) z.2).trans ?_, (hV.cell (p := ⟨gx + 1, 2, none⟩) z.2).trans ?_, (hV.cell (p := ⟨gx + 1, 3, none⟩) z.2).trans ?_⟩ <;> (rw [eW, egx]; simp)
    obtain ⟨a0, a1, a2, a3, a4, a5⟩ := CA.out W (Below.refl _ _)
    go_enter Try.func18, Try.ntmps18
    go_upto_region 1 with fail
    rw [← eW]
    try rw [← egx]
    clear eW egx GR
    go_upto_region 3 with fail
    go_upto_region 4 with fail
    clear a0 a1 a2 a3 a4 a5
    go_loopw [5] (fun i wr => ∃ k : Nat, k ≤ s.ls.length ∧ i = .int .i64 k ∧ Below W.heap.size W wr ∧ ∀ (j : Nat) e e', j < k → s.ls[j]? = some e → s'.ls[j]? = some e' → smLk e e' = true) (fun i _ => s.ls.length - (intOf i).toNat)
    case atStart => exact ⟨0, Nat.zero_le _, rfl, Below.refl _ _, fun j _ _ hj => absurd hj (Nat.not_lt_zero _)⟩
    case round =>
      obtain ⟨k, hk, rfl, hbw, hall⟩ := hrel
      have HW : Hid (Below W.heap.size W wr) := hbw
      have AL : Hid _ := hall
      clear hall
      by_cases hlt : k < s.ls.length
      · obtain ⟨a, rfl⟩ := HA.out.some (by omega)
        obtain ⟨b, rfl⟩ := HB.out.some (by have := EL.out; omega)
        have hb2 : Below w.heap.size w wr := WB.out.trans (hbw.mono WB.out.size)
        obtain ⟨t1, vs1, ee1, hp1, rfl, sk1⟩ := (HA.out.fr (w' := wr) (old_fr hb2)).el k hlt
        obtain ⟨t2, vs2, ee2, hp2, rfl, sk2⟩ := (HB.out.fr (w' := wr) (old_fr hb2)).el k (by have := EL.out; omega)
        have c0 := sk1.c0
        have c1 := sk1.cp 0 _ rfl
        have c2 := sk1.cp 1 _ rfl
        have c3 := sk1.cp 2 _ rfl
        have d0 := sk2.c0
        have d1 := sk2.cp 0 _ rfl
        have d2 := sk2.cp 1 _ rfl
        have d3 := sk2.cp 2 _ rfl
        have E1 : Hid _ := ee1
        have E2 : Hid _ := ee2
        have LT : Hid (k < s.ls.length) := hlt
        have kl : (k : Int) < s.ls.length := by omega
        have kl' : (k : Int) < s'.ls.length := by have := EL.out; omega
        have FW : Hid (few s.ls.length) := HA.out.1
        have B3 : Hid (∀ V, Below wr.heap.size wr V → Below W.heap.size W V) := fun V h => HW.out.trans (h.mono HW.out.size)
        clear hbw hlt ee1 ee2 hp1 hp2 sk1 sk2 hb2
        obtain ⟨a0, a1, a2, a3, a4, a5⟩ := CA.out wr HW.out
        go_upto_region 6 with fail
        go_upto_region 7 with fail
        obtain ⟨V1, eV⟩ : ∃ V, V = wr.alloc (.cells #[.int .i64 t1.pl, .string t1.ql, .int .i64 t1.tm, .string t1.nm] 34 (0, 0)) := ⟨_, rfl⟩
        obtain ⟨h1, eh⟩ : ∃ n, n = wr.heap.size := ⟨_, rfl⟩
        try rw [← eV]
        try rw [← eh]
        have X1 : Hid (V1.heap[h1]? = some (.cells #[.int .i64 t1.pl, .string t1.ql, .int .i64 t1.tm, .string t1.nm] 34 (0, 0))) := by rw [eV, eh]; exact heap_alloc_last _ _
        have G1 : Hid (Below wr.heap.size wr V1) := by rw [eV]; exact (Below.refl _ _).alloc (Nat.le_refl _) _
        have H1 : Hid (h1 = wr.heap.size) := eh
        have zb := block_lt_of_cell d0
        have d0 := (G1.out.cell (p := b.add (k * 4)) zb).trans d0
        have d1 := (G1.out.cell (p := ⟨(b.add (k * 4)).block, (b.add (k * 4)).off + 1, none⟩) zb).trans d1
        have d2 := (G1.out.cell (p := ⟨(b.add (k * 4)).block, (b.add (k * 4)).off + 2, none⟩) zb).trans d2
        have d3 := (G1.out.cell (p := ⟨(b.add (k * 4)).block, (b.add (k * 4)).off + 3, none⟩) zb).trans d3
        clear eV eh a0 a1 a2 a3 a4 a5 c0 c1 c2 c3 zb
        obtain ⟨a0, a1, a2, a3, a4, a5⟩ := CA.out V1 (B3.out _ G1.out)
        go_upto_region 8 with fail
        obtain ⟨V2, eV⟩ : ∃ V, V = V1.alloc (.cells #[.int .i64 t2.pl, .string t2.ql, .int .i64 t2.tm, .string t2.nm] 34 (0, 0)) := ⟨_, rfl⟩
        obtain ⟨h2, eh⟩ : ∃ n, n = V1.heap.size := ⟨_, rfl⟩
        try rw [← eV]
        try rw [← eh]
        have X2 : Hid (V2.heap[h2]? = some (.cells #[.int .i64 t2.pl, .string t2.ql, .int .i64 t2.tm, .string t2.nm] 34 (0, 0))) := by rw [eV, eh]; exact heap_alloc_last _ _
        have Y2 : Hid (V2.heap[h1]? = some (.cells #[.int .i64 t1.pl, .string t1.ql, .int .i64 t1.tm, .string t1.nm] 34 (0, 0))) := by rw [eV]; exact (Below.heap_alloc _ _ _ (lt_of_block X1.out)).trans X1.out
        have G2 : Hid (Below wr.heap.size wr V2) := by rw [eV]; exact G1.out.trans (((Below.refl _ _).alloc (Nat.le_refl _) _).mono G1.out.size)
        have ne : h1 ≠ h2 := by have := lt_of_block X1.out; omega
        have H2 : Hid (wr.heap.size ≤ h1 ∧ wr.heap.size ≤ h2) := by have := H1.out; have := G1.out.size; show _ ∧ _; omega
        clear eV eh a0 a1 a2 a3 a4 a5 d0 d1 d2 d3 X1 G1 H1
        obtain ⟨V4, eV⟩ : ∃ V, V = (V2.setCell ⟨h1, 0, none⟩ (.int .i64 0)).setCell ⟨h2, 0, none⟩ (.int .i64 0) := ⟨_, rfl⟩
        have G4 : Hid (Below wr.heap.size wr V4) := by rw [eV]; exact (G2.out.setCell (p := ⟨h1, 0, none⟩) H2.out.1 _).setCell (p := ⟨h2, 0, none⟩) H2.out.2 _
        have X4 : Hid (V4.heap[h1]? = some (.cells #[.int .i64 0, .string t1.ql, .int .i64 t1.tm, .string t1.nm] 34 (0, 0)) ∧ V4.heap[h2]? = some (.cells #[.int .i64 0, .string t2.ql, .int .i64 t2.tm, .string t2.nm] 34 (0, 0))) := by
          rw [eV]
          exact ⟨(Below.heap_setCell _ _ _ _ (by show h1 ≠ h2; exact ne)).trans (heap_setCell_same _ h1 0 _ _ _ Y2.out), heap_setCell_same _ h2 0 _ _ _ ((Below.heap_setCell _ _ _ _ (by show h2 ≠ h1; exact fun q => ne q.symm)).trans X2.out)⟩
        have p1 : V2.cell? ⟨h1, 0, none⟩ = some (.int .i64 t1.pl) := by simp [World.cell?, Y2.out]
        have p2 : V2.frozen? ⟨h1, 0, none⟩ = false := by simp [World.frozen?, Y2.out]
        have p3 : (V2.setCell ⟨h1, 0, none⟩ (.int .i64 0)).cell? ⟨h2, 0, none⟩ = some (.int .i64 t2.pl) := by rw [World.cell?_setCell_other _ _ _ _ (by intro q; cases q; exact ne rfl)]; simp [World.cell?, X2.out]
        have p4 : (V2.setCell ⟨h1, 0, none⟩ (.int .i64 0)).frozen? ⟨h2, 0, none⟩ = false := by simp [World.frozen?, Below.heap_setCell _ ⟨h1, 0, none⟩ (.int .i64 0) h2 (by show h2 ≠ h1; exact fun q => ne q.symm), X2.out]
        go_upto_region 9 with fail
        go_upto_region 10 with fail
        rw [← eV]
        clear eV p1 p2 p3 p4 X2 Y2 G2 ne H2
        have n0 : V4.cell? ⟨h1, 0, none⟩ = some (.int .i64 0) := by simp [World.cell?, X4.out.1]
        have n1 : V4.cell? ⟨h1, 1, none⟩ = some (.string t1.ql) := by simp [World.cell?, X4.out.1]
        have n2 : V4.cell? ⟨h1, 2, none⟩ = some (.int .i64 t1.tm) := by simp [World.cell?, X4.out.1]
        have n3 : V4.cell? ⟨h1, 3, none⟩ = some (.string t1.nm) := by simp [World.cell?, X4.out.1]
        have m0 : V4.cell? ⟨h2, 0, none⟩ = some (.int .i64 0) := by simp [World.cell?, X4.out.2]
        have m1 : V4.cell? ⟨h2, 1, none⟩ = some (.string t2.ql) := by simp [World.cell?, X4.out.2]
        have m2 : V4.cell? ⟨h2, 2, none⟩ = some (.int .i64 t2.tm) := by simp [World.cell?, X4.out.2]
        have m3 : V4.cell? ⟨h2, 3, none⟩ = some (.string t2.nm) := by simp [World.cell?, X4.out.2]
        cases q : smLk t1 t2
        · have nq : ∀ w : World, (binOp .neq 34 (.agg #[.int .i64 0, .string t1.ql, .int .i64 t1.tm, .string t1.nm]) (.agg #[.int .i64 0, .string t2.ql, .int .i64 t2.tm, .string t2.nm])).run Try.prog w = .ok (.bool true) w := fun w => neLk_f 0 t1 t2 q w
          have ed := smL_bad smLk s.ls s'.ls k _ _ E1.out E2.out q
          clear q
          go_wp2
          go_ret
          exact ⟨by first | rfl | (rw [ed]; rfl), WB.out.trans ((B3.out _ G4.out).mono WB.out.size)⟩
        · have nq : ∀ w : World, (binOp .neq 34 (.agg #[.int .i64 0, .string t1.ql, .int .i64 t1.tm, .string t1.nm]) (.agg #[.int .i64 0, .string t2.ql, .int .i64 t2.tm, .string t2.nm])).run Try.prog w = .ok (.bool false) w := fun w => neLk_t 0 t1 t2 q w
          have Q : Hid _ := q
          clear q
          have ew : wrap64 ((k : Int) + 1) = (k : Int) + 1 := by have := FW.out; have := LT.out; unfold wrap64; omega
          go_wp2
          try rw [ew]
          exact ⟨⟨k + 1, Nat.succ_le_of_lt LT.out, rfl, B3.out _ G4.out, fun j e e' hj a b => by
            rcases Nat.lt_succ_iff_lt_or_eq.1 hj with h | rfl
            · exact AL.out j e e' h a b
            · rw [E1.out] at a; rw [E2.out] at b; cases a; cases b; exact Q.out⟩, msr LT.out⟩
      · have kl : ¬ (k : Int) < s.ls.length := by omega
        have ed := smL_all smLk s.ls s'.ls EL.out fun i e e' a b => AL.out i e e' (by
          apply Classical.byContradiction
          intro q
          rw [List.getElem?_eq_none (by omega)] at a
          cases a) a b
        obtain ⟨a0, a1, a2, a3, a4, a5⟩ := CA.out wr HW.out
        clear hbw hlt
        go_wp2
        go_ret
        exact ⟨by first | rfl | (rw [ed]; rfl), WB.out.trans (HW.out.mono WB.out.size)⟩
end Go.Proofs.Ytcoeinfopfcekaa
