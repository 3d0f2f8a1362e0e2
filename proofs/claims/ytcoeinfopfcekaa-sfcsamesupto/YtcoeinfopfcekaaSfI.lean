/- The document's sameness of charts; no statement of the seat is proved here. -/
import Derived.Test.YtcoeinfopfcekaaSfH
import Derived.Test.YtcoeinfopfcekaaTrV
import Derived.Test.YtcoeinfopfcekaaMkR
import Derived.Deep.MidRow
namespace Go.Proofs.Ytcoeinfopfcekaa
set_option linter.unusedVariables false
set_option linter.unusedSimpArgs false
open Go.RowKit
set_option maxRecDepth 1000000 in
set_option maxHeartbeats 16000000 in
theorem SameD_of (d : Nat) (m m' : ChR) (x1 x2 x3 y1 y2 y3 : Option Addr) (c1 c2 c3 e1 e2 e3 : Nat) (w : World) (ha : ChQ (fun b => b < w.heap.size) d w m x1 x2 x3) (hb : ChQ (fun b => b < w.heap.size) d w m' y1 y2 y3) :
    Calls Try.prog 6 #[.agg #[.slice x1 m.ss.length c1, .slice x2 m.ts.length c2, .slice x3 m.ac.length c3], .agg #[.slice y1 m'.ss.length e1, .slice y2 m'.ts.length e2, .slice y3 m'.ac.length e3]] w fun e w' => e = .returned (.bool (smCh d m m')) ∧ Below w.heap.size w w' := by
  have GR : Hid (∀ X Y : Obj, Below w.heap.size w ((w.alloc X).alloc Y)) := two_b w
  by_cases l1 : m.ss.length = m'.ss.length
  case neg =>
    have el' : ((m.ss.length : Int) == (m'.ss.length : Int)) = false := by rw [beq_eq_false_iff_ne]; omega
    have el2 : ((m.ss.length : Int) != (m'.ss.length : Int)) = true := by simp [bne, el']
    have ed := smL_len smSp m.ss m'.ss l1
    have er : smCh d m m' = false := by simp [smCh, ed]
    rw [er]
    clear l1 ed er ha hb
    go_enter Try.func6, Try.ntmps6
    go_wp2
    go_ret
    exact ⟨by first | rfl | simp, GR.out _ _⟩
  have l1' : ((m.ss.length : Int) != (m'.ss.length : Int)) = false := by simp [bne, l1]
  by_cases l2 : m.ts.length = m'.ts.length
  case neg =>
    have el' : ((m.ts.length : Int) == (m'.ts.length : Int)) = false := by rw [beq_eq_false_iff_ne]; omega
    have el2 : ((m.ts.length : Int) != (m'.ts.length : Int)) = true := by simp [bne, el']
    have ed := smL_len (smTn d) m.ts m'.ts l2
    have er : smCh d m m' = false := by simp [smCh, ed]
    rw [er]
    clear l2 ed er ha hb
    go_enter Try.func6, Try.ntmps6
    go_wp2
    go_ret
    exact ⟨by first | rfl | simp, GR.out _ _⟩
  have l2' : ((m.ts.length : Int) != (m'.ts.length : Int)) = false := by simp [bne, l2]
  by_cases l3 : m.ac.length = m'.ac.length
  case neg =>
    have el' : ((m.ac.length : Int) == (m'.ac.length : Int)) = false := by rw [beq_eq_false_iff_ne]; omega
    have el2 : ((m.ac.length : Int) != (m'.ac.length : Int)) = true := by simp [bne, el']
    have ed := smL_len (smAc d) m.ac m'.ac l3
    have er : smCh d m m' = false := by simp [smCh, ed]
    rw [er]
    clear l3 ed er ha hb
    go_enter Try.func6, Try.ntmps6
    go_wp2
    go_ret
    exact ⟨by first | rfl | simp, GR.out _ _⟩
  have l3' : ((m.ac.length : Int) != (m'.ac.length : Int)) = false := by simp [bne, l3]
  have L1 : Hid (m.ss.length = m'.ss.length) := l1
  have L2 : Hid (m.ts.length = m'.ts.length) := l2
  have L3 : Hid (m.ac.length = m'.ac.length) := l3
  clear l1 l2 l3
  have HA : Hid (ChQ (fun b => b < w.heap.size) d w m x1 x2 x3) := ha
  have HB : Hid (ChQ (fun b => b < w.heap.size) d w m' y1 y2 y3) := hb
  clear ha hb
  have FW : Hid (few m.ss.length ∧ few m.ts.length ∧ few m.ac.length) := ⟨HA.out.1.1, HA.out.2.1.1, HA.out.2.2.1⟩
  obtain ⟨W, eW⟩ : ∃ W, W = (w.alloc (.cells #[.slice x1 m.ss.length c1, .slice x2 m.ts.length c2, .slice x3 m.ac.length c3] 26 (0, 0))).alloc (.cells #[.slice y1 m'.ss.length e1, .slice y2 m'.ts.length e2, .slice y3 m'.ac.length e3] 26 (0, 0)) := ⟨_, rfl⟩
  obtain ⟨gx, egx⟩ : ∃ n, n = w.heap.size := ⟨_, rfl⟩
  have WB : Hid (Below w.heap.size w W) := by rw [eW]; exact GR.out _ _
  have ZZ : Hid (gx < W.heap.size ∧ gx + 1 < W.heap.size) := by rw [eW, egx]; show _ ∧ _; simp <;> omega
  have CA : Hid (∀ V, Below W.heap.size W V → V.cell? ⟨gx, 0, none⟩ = some (.slice x1 m.ss.length c1) ∧ V.cell? ⟨gx, 1, none⟩ = some (.slice x2 m.ts.length c2) ∧ V.cell? ⟨gx, 2, none⟩ = some (.slice x3 m.ac.length c3) ∧ V.cell? ⟨gx + 1, 0, none⟩ = some (.slice y1 m'.ss.length e1) ∧ V.cell? ⟨gx + 1, 1, none⟩ = some (.slice y2 m'.ts.length e2) ∧ V.cell? ⟨gx + 1, 2, none⟩ = some (.slice y3 m'.ac.length e3)) := fun V hV => by
    have z := ZZ.out
    refine ⟨(hV.cell (p := ⟨gx, 0, none⟩) z.1).trans ?_, (hV.cell (p := ⟨gx, 1, none⟩) z.1).trans ?_, (hV.cell (p := ⟨gx, 2, none⟩) z.1).trans ?_, (hV.cell (p := ⟨gx + 1, 0, none⟩) z.2).trans ?_, (hV.cell (p := ⟨gx + 1, 1, none⟩) z.2).trans ?_, (hV.cell (p := ⟨gx + 1, 2, none⟩) z.2).trans ?_⟩ <;> (rw [eW, egx]; simp)
  have BW : Hid (∀ V, Below W.heap.size W V → Below w.heap.size w V) := fun V h => WB.out.trans (h.mono WB.out.size)
  have up : ∀ {W' : World}, Below w.heap.size w W' → ∀ b, b < w.heap.size → b < W'.heap.size := fun h b q => Nat.lt_of_lt_of_le q h.size
  have UP : Hid (∀ (W' : World), Below w.heap.size w W' → ∀ b, b < w.heap.size → b < W'.heap.size) := fun W' h => up h
  obtain ⟨a0, a1, a2, a3, a4, a5⟩ := CA.out W (Below.refl _ _)
  clear up
  go_enter Try.func6, Try.ntmps6
  go_upto_region 1 with fail
  rw [← eW]
  try rw [← egx]
  clear eW egx GR
  go_upto_region 3 with fail
  go_upto_region 4 with fail
  clear a0 a1 a2 a3 a4 a5 l1' l2' l3'
  go_loopw [5] (fun i wr => ∃ k : Nat, k ≤ m.ss.length ∧ i = .int .i64 k ∧ Below W.heap.size W wr ∧ ∀ (j : Nat) e e', j < k → m.ss[j]? = some e → m'.ss[j]? = some e' → smSp e e' = true) (fun i _ => m.ss.length - (intOf i).toNat)
  case atStart => exact ⟨0, Nat.zero_le _, rfl, Below.refl _ _, fun j _ _ hj => absurd hj (Nat.not_lt_zero _)⟩
  case round =>
    obtain ⟨k, hk, rfl, hbw, hall⟩ := hrel
    have HW : Hid (Below W.heap.size W wr) := hbw
    have AL : Hid (∀ (j : Nat) e e', j < k → m.ss[j]? = some e → m'.ss[j]? = some e' → smSp e e' = true) := hall
    clear hall
    have B3 : Hid (∀ V, Below wr.heap.size wr V → Below W.heap.size W V) := fun V h => HW.out.trans (h.mono HW.out.size)
    by_cases hlt : k < m.ss.length
    · obtain ⟨a, rfl⟩ := HA.out.1.some (by omega)
      obtain ⟨b, rfl⟩ := HB.out.1.some (by have := L1.out; omega)
      have hb2 : Below w.heap.size w wr := BW.out wr hbw
      obtain ⟨t1, vs1, ee1, hp1, ⟨p1, q1, rfl, v1⟩, sk1⟩ := (rw_frK keptSp (w' := wr) HA.out.1 (old_fr hb2)).el k hlt
      obtain ⟨t2, vs2, ee2, hp2, ⟨p2, q2, rfl, v2⟩, sk2⟩ := (rw_frK keptSp (w' := wr) HB.out.1 (old_fr hb2)).el k (by have := L1.out; omega)
      have E1 : Hid (m.ss[k]? = some t1) := ee1
      have E2 : Hid (m'.ss[k]? = some t2) := ee2
      have LT : Hid (k < m.ss.length) := hlt
      have kl : (k : Int) < m.ss.length := by omega
      have kl' : (k : Int) < m'.ss.length := by have := L1.out; omega
      have c0 := sk1.c0
      have c1' := sk1.cp 0 _ rfl
      have c2' := sk1.cp 1 _ rfl
      have c3' := sk1.cp 2 _ rfl
      have d0 := sk2.c0
      have d1 := sk2.cp 0 _ rfl
      have d2 := sk2.cp 1 _ rfl
      have d3 := sk2.cp 2 _ rfl
      have za := block_lt_of_cell c0
      have zb := block_lt_of_cell d0
      have CALL : Hid (∀ z : Sub wr, Calls Try.prog 18 #[.agg #[.int .i64 t1.pl, .string t1.nm, .bool t1.ini, .slice p1 t1.ls.length q1], .agg #[.int .i64 t2.pl, .string t2.nm, .bool t2.ini, .slice p2 t2.ls.length q2]] z.w fun e w' => e = .returned (.bool (smSp t1 t2)) ∧ Below z.w.heap.size z.w w') := fun z => by
        have hz : Below w.heap.size w z.w := BW.out _ (B3.out _ z.h)
        exact stepD t1 t2 p1 p2 q1 q2 z.w ((v1.fr (fun q hq => z.h.cell (UP.out _ (BW.out wr HW.out) _ hq))).sub (UP.out _ hz)) ((v2.fr (fun q hq => z.h.cell (UP.out _ (BW.out wr HW.out) _ hq))).sub (UP.out _ hz))
      have a0 : ∀ z : Sub wr, z.w.cell? ⟨gx, 0, none⟩ = some (.slice (some a) m.ss.length c1) := fun z => (CA.out z.w (B3.out _ z.h)).1
      have a3 : ∀ z : Sub wr, z.w.cell? ⟨gx + 1, 0, none⟩ = some (.slice (some b) m'.ss.length e1) := fun z => (CA.out z.w (B3.out _ z.h)).2.2.2.1
      have i0 : ∀ z : Sub wr, z.w.cell? (a.add (k * 4)) = some (.int .i64 t1.pl) := fun z => (z.h.cell (p := a.add (k * 4)) za).trans c0
      have i1 : ∀ z : Sub wr, z.w.cell? ⟨(a.add (k * 4)).block, (a.add (k * 4)).off + 1, none⟩ = some (.string t1.nm) := fun z => (z.h.cell (p := ⟨(a.add (k * 4)).block, (a.add (k * 4)).off + 1, none⟩) za).trans c1'
      have i2 : ∀ z : Sub wr, z.w.cell? ⟨(a.add (k * 4)).block, (a.add (k * 4)).off + 2, none⟩ = some (.bool t1.ini) := fun z => (z.h.cell (p := ⟨(a.add (k * 4)).block, (a.add (k * 4)).off + 2, none⟩) za).trans c2'
      have i3 : ∀ z : Sub wr, z.w.cell? ⟨(a.add (k * 4)).block, (a.add (k * 4)).off + 3, none⟩ = some (.slice p1 t1.ls.length q1) := fun z => (z.h.cell (p := ⟨(a.add (k * 4)).block, (a.add (k * 4)).off + 3, none⟩) za).trans c3'
      have j0 : ∀ z : Sub wr, z.w.cell? (b.add (k * 4)) = some (.int .i64 t2.pl) := fun z => (z.h.cell (p := b.add (k * 4)) zb).trans d0
      have j1 : ∀ z : Sub wr, z.w.cell? ⟨(b.add (k * 4)).block, (b.add (k * 4)).off + 1, none⟩ = some (.string t2.nm) := fun z => (z.h.cell (p := ⟨(b.add (k * 4)).block, (b.add (k * 4)).off + 1, none⟩) zb).trans d1
      have j2 : ∀ z : Sub wr, z.w.cell? ⟨(b.add (k * 4)).block, (b.add (k * 4)).off + 2, none⟩ = some (.bool t2.ini) := fun z => (z.h.cell (p := ⟨(b.add (k * 4)).block, (b.add (k * 4)).off + 2, none⟩) zb).trans d2
      have j3 : ∀ z : Sub wr, z.w.cell? ⟨(b.add (k * 4)).block, (b.add (k * 4)).off + 3, none⟩ = some (.slice p2 t2.ls.length q2) := fun z => (z.h.cell (p := ⟨(b.add (k * 4)).block, (b.add (k * 4)).off + 3, none⟩) zb).trans d3
      obtain ⟨b0, b1, b2, b3, b4, b5⟩ := CA.out wr HW.out
      clear hbw hlt ee1 ee2 hp1 hp2 sk1 sk2 v1 v2 hb2 c0 c1' c2' c3' d0 d1 d2 d3 za zb
      go_upto_region 6 with fail
      clear b0 b1 b2 b3 b4 b5
      refine wp_region_sub2 (by kernel_rfl) (by kernel_rfl) ?_
      intro cx
      clear cx
      repeat (first | go_big_quiet_skip | (go_big_quiet_want; go_big_quiet_op; first | go_big_quiet_on | (refine ⟨_, fun _ => rfl, ?_⟩; go_big_quiet_on) | go_big_quiet_call (first | (go_at_call 18; exact calls_sub (CALL.out _)))))
      refine wpQuiet_nil ?_
      rintro _ ⟨z, rfl⟩
      have B5 : Hid (Below W.heap.size W z.w) := B3.out _ z.h
      generalize z.w = w5 at *
      clear a0 a3 i0 i1 i2 i3 j0 j1 j2 j3 CALL
      cases q : smSp t1 t2
      · have ed := smL_bad (smSp) m.ss m'.ss k _ _ E1.out E2.out q
        have er : Hid (smCh d m m' = false) := by show _ = _; simp [smCh, ed]
        clear q ed
        go_wp2
        go_ret
        exact ⟨by first | (rw [er.out]; rfl) | rw [er.out] | simp [er.out], BW.out _ B5.out⟩
      · have Q : Hid (smSp t1 t2 = true) := q
        clear q
        have ew : wrap64 ((k : Int) + 1) = (k : Int) + 1 := by have := FW.out.1; have := LT.out; unfold wrap64; omega
        go_wp2
        try rw [ew]
        exact ⟨⟨k + 1, Nat.succ_le_of_lt LT.out, rfl, B5.out, fun j e e' hj a b => by
          rcases Nat.lt_succ_iff_lt_or_eq.1 hj with h | rfl
          · exact AL.out j e e' h a b
          · rw [E1.out] at a; rw [E2.out] at b; cases a; cases b; exact Q.out⟩, msr LT.out⟩
    · have kl : ¬ (k : Int) < m.ss.length := by omega
      have R1 : Hid (smL (smSp) m.ss m'.ss = true) := smL_all (smSp) m.ss m'.ss L1.out fun i e e' a b => AL.out i e e' (by
        apply Classical.byContradiction
        intro q
        rw [List.getElem?_eq_none (by omega)] at a
        cases a) a b
      obtain ⟨a0, a1, a2, a3, a4, a5⟩ := CA.out wr HW.out
      clear hbw hlt hk AL
      go_upto_region 9 with fail
      clear a0 a1 a2 a3 a4 a5
      have HX : Hid (Below W.heap.size W wr) := HW.out
      clear HW B3
      go_loopw [6] (fun i wr => ∃ k : Nat, k ≤ m.ts.length ∧ i = .int .i64 k ∧ Below W.heap.size W wr ∧ ∀ (j : Nat) e e', j < k → m.ts[j]? = some e → m'.ts[j]? = some e' → smTn d e e' = true) (fun i _ => m.ts.length - (intOf i).toNat)
      case atStart => exact ⟨0, Nat.zero_le _, rfl, HX.out, fun j _ _ hj => absurd hj (Nat.not_lt_zero _)⟩
      case round =>
        clear HX
        try clear wr
        obtain ⟨k, hk, rfl, hbw, hall⟩ := hrel
        rename World => wr
        have HW : Hid (Below W.heap.size W wr) := hbw
        have AL : Hid (∀ (j : Nat) e e', j < k → m.ts[j]? = some e → m'.ts[j]? = some e' → smTn d e e' = true) := hall
        clear hall
        have B3 : Hid (∀ V, Below wr.heap.size wr V → Below W.heap.size W V) := fun V h => HW.out.trans (h.mono HW.out.size)
        by_cases hlt : k < m.ts.length
        · obtain ⟨a, rfl⟩ := HA.out.2.1.some (by omega)
          obtain ⟨b, rfl⟩ := HB.out.2.1.some (by have := L2.out; omega)
          have hb2 : Below w.heap.size w wr := BW.out wr hbw
          obtain ⟨t1, vs1, ee1, hp1, v1, sk1⟩ := (rw_frK (keptTn d) (w' := wr) HA.out.2.1 (old_fr hb2)).el k hlt
          obtain ⟨t2, vs2, ee2, hp2, v2, sk2⟩ := (rw_frK (keptTn d) (w' := wr) HB.out.2.1 (old_fr hb2)).el k (by have := L2.out; omega)
          have E1 : Hid (m.ts[k]? = some t1) := ee1
          have E2 : Hid (m'.ts[k]? = some t2) := ee2
          have LT : Hid (k < m.ts.length) := hlt
          have kl : (k : Int) < m.ts.length := by omega
          have kl' : (k : Int) < m'.ts.length := by have := L2.out; omega
          have V1 : Hid (TnP d (fun b => b < w.heap.size) wr t1 vs1) := v1
          have V2 : Hid (TnP d (fun b => b < w.heap.size) wr t2 vs2) := v2
          have K1 : Hid (CsAt wr (a.add (k * 18)) vs1) := sk1
          have K2 : Hid (∀ W, Below wr.heap.size wr W → CsAt W (b.add (k * 18)) vs2) := fun W hW j u hu => (hW.cell (block_lt_of_cell (sk2 j u hu))).trans (sk2 j u hu)
          have O1 : Hid (vs1.length = 18 ∧ vs1.toArray.all (·.oneCell') = true) := TnP.one v1
          have O2 : Hid (vs2.length = 18 ∧ vs2.toArray.all (·.oneCell') = true) := TnP.one v2
          clear hbw hlt ee1 ee2 hp1 hp2 sk1 sk2 v1 v2 hb2
          have n1 : vs1.length = 18 := O1.out.1
          have n2 : vs2.length = 18 := O2.out.1
          have st1 : ∀ W : World, (storeCells ⟨W.heap.size, 0, none⟩ vs1 0).run Try.prog (W.alloc (.cells #[.int .i64 0, .string ⟨#[]⟩, .slice none 0 0, .slice none 0 0, .int .i64 0, .int .i64 0, .string ⟨#[]⟩, .string ⟨#[]⟩, .int .u8 0, .int .u64 0, .string ⟨#[]⟩, .slice none 0 0, .slice none 0 0, .int .u8 0, .int .i64 0, .int .i64 0, .int .i64 0, .int .i64 0] 44)) = .ok () (W.alloc (.cells vs1.toArray 44)) := fun W => run_storeCells_new (P := Try.prog) W 44 _ vs1.toArray (by rw [List.size_toArray, O1.out.1]; exact tn_info) (by simp [O1.out.1]) O1.out.2
          have st2 : ∀ W : World, (storeCells ⟨W.heap.size, 0, none⟩ vs2 0).run Try.prog (W.alloc (.cells #[.int .i64 0, .string ⟨#[]⟩, .slice none 0 0, .slice none 0 0, .int .i64 0, .int .i64 0, .string ⟨#[]⟩, .string ⟨#[]⟩, .int .u8 0, .int .u64 0, .string ⟨#[]⟩, .slice none 0 0, .slice none 0 0, .int .u8 0, .int .i64 0, .int .i64 0, .int .i64 0, .int .i64 0] 44)) = .ok () (W.alloc (.cells vs2.toArray 44)) := fun W => run_storeCells_new (P := Try.prog) W 44 _ vs2.toArray (by rw [List.size_toArray, O2.out.1]; exact tn_info) (by simp [O2.out.1]) O2.out.2
          obtain ⟨a0, a1, a2, a3, a4, a5⟩ := CA.out wr HW.out
          go_upto_region 11 with fail
          go_upto_region 12 with (refine wpList_load_at rfl 44 _ rfl (a.add (k * 18)) rfl vs1 _ K1.out Try.underlying44 rfl (by rw [O1.out.1]; exact tn_info) ?_)
          obtain ⟨W1, eV⟩ : ∃ W, W = wr.alloc (.cells vs1.toArray 44) := ⟨_, rfl⟩
          obtain ⟨g1, eg⟩ : ∃ n, n = wr.heap.size := ⟨_, rfl⟩
          try rw [← eV]
          try rw [← eg]
          have X1 : Hid (W1.heap[g1]? = some (.cells vs1.toArray 44 (0, 0))) := by rw [eV, eg]; exact heap_alloc_last _ _
          have G1 : Hid (Below wr.heap.size wr W1) := by rw [eV]; exact (Below.refl _ _).alloc (Nat.le_refl _) _
          clear eV eg a0 a1 a2 a3 a4 a5
          obtain ⟨a0, a1, a2, a3, a4, a5⟩ := CA.out W1 (B3.out _ G1.out)
          go_upto_region 13 with (refine wpList_load_at rfl 44 _ rfl (b.add (k * 18)) rfl vs2 _ (K2.out _ G1.out) Try.underlying44 rfl (by rw [O2.out.1]; exact tn_info) ?_)
          obtain ⟨W2, eV⟩ : ∃ W, W = W1.alloc (.cells vs2.toArray 44) := ⟨_, rfl⟩
          obtain ⟨g2, eg⟩ : ∃ n, n = W1.heap.size := ⟨_, rfl⟩
          try rw [← eV]
          try rw [← eg]
          have Y2 : Hid (W2.heap[g2]? = some (.cells vs2.toArray 44 (0, 0))) := by rw [eV, eg]; exact heap_alloc_last _ _
          have Y1 : Hid (W2.heap[g1]? = some (.cells vs1.toArray 44 (0, 0))) := by rw [eV]; exact (Below.heap_alloc _ _ _ (lt_of_block X1.out)).trans X1.out
          have G2 : Hid (Below wr.heap.size wr W2) := by rw [eV]; exact G1.out.trans (((Below.refl _ _).alloc (Nat.le_refl _) _).mono G1.out.size)
          clear eV eg st1 st2 X1 G1 K1 K2 a0 a1 a2 a3 a4 a5 n1 n2 O1 O2
          obtain ⟨u1, u1c, u2, u2c, u3, u3c, u4, u4c, rfl, hq⟩ := V1.out
          obtain ⟨v1, v1c, v2, v2c, v3, v3c, v4, v4c, rfl, hq'⟩ := V2.out
          have OX : Hid (W2.heap[g1]? = some (.cells #[.int .i64 t1.pl, .string t1.nm, .slice u1 t1.fr.length u1c, .slice u2 t1.to.length u2c, .int .i64 t1.eh.op, .int .i64 t1.eh.pl, .string t1.eh.nm, .string t1.eh.fd, .int .u8 t1.eh.vk, .int .u64 t1.eh.vb, .string t1.eh.vs, .slice u3 t1.ek.length u3c, .slice u4 t1.en.length u4c, .int .u8 t1.eh.kd, .int .i64 t1.eh.ar, .int .i64 t1.eh.rf, .int .i64 t1.eh.fr, .int .i64 t1.eh.up] 44 (0, 0))) := Y1.out
          have OY : Hid (W2.heap[g2]? = some (.cells #[.int .i64 t2.pl, .string t2.nm, .slice v1 t2.fr.length v1c, .slice v2 t2.to.length v2c, .int .i64 t2.eh.op, .int .i64 t2.eh.pl, .string t2.eh.nm, .string t2.eh.fd, .int .u8 t2.eh.vk, .int .u64 t2.eh.vb, .string t2.eh.vs, .slice v3 t2.ek.length v3c, .slice v4 t2.en.length v4c, .int .u8 t2.eh.kd, .int .i64 t2.eh.ar, .int .i64 t2.eh.rf, .int .i64 t2.eh.fr, .int .i64 t2.eh.up] 44 (0, 0))) := Y2.out
          have B2 : Hid (Below W.heap.size W W2) := B3.out _ G2.out
          have QA : Hid (∀ V, Below W2.heap.size W2 V → TnQ (fun b => b < V.heap.size) d V t1 u1 u2 u3 u4) := fun V hV => by
            have z := G2.out.trans (hV.mono G2.out.size)
            exact (hq.fr (fun q hq => z.cell (UP.out _ (BW.out wr HW.out) _ hq))).sub (UP.out _ (BW.out _ (B3.out _ z)))
          have QB : Hid (∀ V, Below W2.heap.size W2 V → TnQ (fun b => b < V.heap.size) d V t2 v1 v2 v3 v4) := fun V hV => by
            have z := G2.out.trans (hV.mono G2.out.size)
            exact (hq'.fr (fun q hq => z.cell (UP.out _ (BW.out wr HW.out) _ hq))).sub (UP.out _ (BW.out _ (B3.out _ z)))
          clear V1 V2 Y1 Y2 hq hq' G2 B3
          have N1 : Hid (∀ r, decide (t1.fr = t2.fr) = r → ∀ V, Below W2.heap.size W2 V → Calls Try.prog 19 #[.slice u1 t1.fr.length u1c, .slice v1 t2.fr.length v1c] V fun e w' => e = .returned (.bool r) ∧ Below V.heap.size V w') := fun r hr V hV => by
            have q := namesD u1 v1 t1.fr t2.fr u1c v1c V (QA.out V hV).1.1.1 (QB.out V hV).1.1.1 (Nat.lt_trans (QA.out V hV).1.2 (by decide))
            rwa [hr] at q
          have N2 : Hid (∀ r, decide (t1.to = t2.to) = r → ∀ V, Below W2.heap.size W2 V → Calls Try.prog 19 #[.slice u2 t1.to.length u2c, .slice v2 t2.to.length v2c] V fun e w' => e = .returned (.bool r) ∧ Below V.heap.size V w') := fun r hr V hV => by
            have q := namesD u2 v2 t1.to t2.to u2c v2c V (QA.out V hV).2.1.1.1 (QB.out V hV).2.1.1.1 (Nat.lt_trans (QA.out V hV).2.1.2 (by decide))
            rwa [hr] at q
          have ST : Hid (smTn d t1 t2 = ((t1.nm.toList == t2.nm.toList) && decide (t1.fr = t2.fr) && decide (t1.to = t2.to) && smE (d + 1) t1.cd t2.cd)) := rfl
          cases f1 : (t1.nm.toList == t2.nm.toList)
          · have q : smTn d t1 t2 = false := by rw [ST.out, f1]; rfl
            have g0 : (t1.nm.toList != t2.nm.toList) = true := by simp [bne, f1]
            have Q0 : Hid _ := q
            clear q
            have zx : g1 < W2.heap.size := blk_in2' OX.out
            have zy : g2 < W2.heap.size := blk_in2' OY.out
            have p0 : ∀ z : Sub W2, z.w.cell? ⟨g1, 1, none⟩ = some (.string t1.nm) := fun z => (z.h.cell (p := ⟨g1, 1, none⟩) zx).trans (by simp [World.cell?, OX.out])
            have p1 : ∀ z : Sub W2, z.w.cell? ⟨g2, 1, none⟩ = some (.string t2.nm) := fun z => (z.h.cell (p := ⟨g2, 1, none⟩) zy).trans (by simp [World.cell?, OY.out])
            refine wp_region_sub2 (by kernel_rfl) (by kernel_rfl) ?_
            intro cx
            clear cx
            repeat (first | go_big_quiet_skip | (go_big_quiet_want; go_big_quiet_op; first | go_big_quiet_on | (refine ⟨_, fun _ => rfl, ?_⟩; go_big_quiet_on)))
            refine wpQuiet_nil ?_
            rintro _ ⟨z, rfl⟩
            have B5 : Hid (Below W.heap.size W z.w) := B2.out.trans (z.h.mono B2.out.size)
            generalize z.w = w5 at *
            clear p0 p1 zx zy
            have q := Q0.out
            clear Q0
            have ed := smL_bad (smTn d) m.ts m'.ts k _ _ E1.out E2.out q
            have er : Hid (smCh d m m' = false) := by show _ = _; simp [smCh, ed]
            clear q ed
            go_wp2
            go_ret
            exact ⟨by first | (rw [er.out]; rfl) | rw [er.out] | simp [er.out], BW.out _ B5.out⟩
          have g0 : (t1.nm.toList != t2.nm.toList) = false := by simp [bne, f1]
          cases f2 : decide (t1.fr = t2.fr)
          · have Q0 : Hid (smTn d t1 t2 = false) := by rw [ST.out, f1, f2]; rfl
            have zx : g1 < W2.heap.size := blk_in2' OX.out
            have zy : g2 < W2.heap.size := blk_in2' OY.out
            have p0 : ∀ z : Sub W2, z.w.cell? ⟨g1, 1, none⟩ = some (.string t1.nm) := fun z => (z.h.cell (p := ⟨g1, 1, none⟩) zx).trans (by simp [World.cell?, OX.out])
            have p1 : ∀ z : Sub W2, z.w.cell? ⟨g1, 2, none⟩ = some (.slice u1 t1.fr.length u1c) := fun z => (z.h.cell (p := ⟨g1, 2, none⟩) zx).trans (by simp [World.cell?, OX.out])
            have p2 : ∀ z : Sub W2, z.w.cell? ⟨g2, 1, none⟩ = some (.string t2.nm) := fun z => (z.h.cell (p := ⟨g2, 1, none⟩) zy).trans (by simp [World.cell?, OY.out])
            have p3 : ∀ z : Sub W2, z.w.cell? ⟨g2, 2, none⟩ = some (.slice v1 t2.fr.length v1c) := fun z => (z.h.cell (p := ⟨g2, 2, none⟩) zy).trans (by simp [World.cell?, OY.out])
            have CALL : Hid (∀ z : Sub W2, Calls Try.prog 19 #[.slice u1 t1.fr.length u1c, .slice v1 t2.fr.length v1c] z.w fun e w' => e = .returned (.bool false) ∧ Below z.w.heap.size z.w w') := fun z => N1.out _ f2 _ z.h
            refine wp_region_sub2 (by kernel_rfl) (by kernel_rfl) ?_
            intro cx
            clear cx
            repeat (first | go_big_quiet_skip | (go_big_quiet_want; go_big_quiet_op; first | go_big_quiet_on | (refine ⟨_, fun _ => rfl, ?_⟩; go_big_quiet_on) | go_big_quiet_call (first | (go_at_call 19; exact calls_sub (CALL.out _)))))
            refine wpQuiet_nil ?_
            rintro _ ⟨z, rfl⟩
            have B5 : Hid (Below W.heap.size W z.w) := B2.out.trans (z.h.mono B2.out.size)
            generalize z.w = w5 at *
            clear p0 p1 p2 p3 zx zy
            have q := Q0.out
            clear Q0 CALL
            have ed := smL_bad (smTn d) m.ts m'.ts k _ _ E1.out E2.out q
            have er : Hid (smCh d m m' = false) := by show _ = _; simp [smCh, ed]
            clear q ed
            go_wp2
            go_ret
            exact ⟨by first | (rw [er.out]; rfl) | rw [er.out] | simp [er.out], BW.out _ B5.out⟩
          cases f3 : decide (t1.to = t2.to)
          · have Q0 : Hid (smTn d t1 t2 = false) := by rw [ST.out, f1, f2, f3]; rfl
            have zx : g1 < W2.heap.size := blk_in2' OX.out
            have zy : g2 < W2.heap.size := blk_in2' OY.out
            have p0 : ∀ z : Sub W2, z.w.cell? ⟨g1, 1, none⟩ = some (.string t1.nm) := fun z => (z.h.cell (p := ⟨g1, 1, none⟩) zx).trans (by simp [World.cell?, OX.out])
            have p1 : ∀ z : Sub W2, z.w.cell? ⟨g1, 2, none⟩ = some (.slice u1 t1.fr.length u1c) := fun z => (z.h.cell (p := ⟨g1, 2, none⟩) zx).trans (by simp [World.cell?, OX.out])
            have p2 : ∀ z : Sub W2, z.w.cell? ⟨g1, 3, none⟩ = some (.slice u2 t1.to.length u2c) := fun z => (z.h.cell (p := ⟨g1, 3, none⟩) zx).trans (by simp [World.cell?, OX.out])
            have p3 : ∀ z : Sub W2, z.w.cell? ⟨g2, 1, none⟩ = some (.string t2.nm) := fun z => (z.h.cell (p := ⟨g2, 1, none⟩) zy).trans (by simp [World.cell?, OY.out])
            have p4 : ∀ z : Sub W2, z.w.cell? ⟨g2, 2, none⟩ = some (.slice v1 t2.fr.length v1c) := fun z => (z.h.cell (p := ⟨g2, 2, none⟩) zy).trans (by simp [World.cell?, OY.out])
            have p5 : ∀ z : Sub W2, z.w.cell? ⟨g2, 3, none⟩ = some (.slice v2 t2.to.length v2c) := fun z => (z.h.cell (p := ⟨g2, 3, none⟩) zy).trans (by simp [World.cell?, OY.out])
            have CALL : Hid (∀ z : Sub W2, Calls Try.prog 19 #[.slice u1 t1.fr.length u1c, .slice v1 t2.fr.length v1c] z.w fun e w' => e = .returned (.bool true) ∧ Below z.w.heap.size z.w w') := fun z => N1.out _ f2 _ z.h
            have CALL2 : Hid (∀ z : Sub W2, Calls Try.prog 19 #[.slice u2 t1.to.length u2c, .slice v2 t2.to.length v2c] z.w fun e w' => e = .returned (.bool false) ∧ Below z.w.heap.size z.w w') := fun z => N2.out _ f3 _ z.h
            refine wp_region_sub2 (by kernel_rfl) (by kernel_rfl) ?_
            intro cx
            clear cx
            repeat (first | go_big_quiet_skip | (go_big_quiet_want; go_big_quiet_op; first | go_big_quiet_on | (refine ⟨_, fun _ => rfl, ?_⟩; go_big_quiet_on) | go_big_quiet_call (first | (go_at_call 19; first | with_reducible exact calls_sub (CALL.out _) | with_reducible exact calls_sub (CALL2.out _)))))
            refine wpQuiet_nil ?_
            rintro _ ⟨z, rfl⟩
            have B5 : Hid (Below W.heap.size W z.w) := B2.out.trans (z.h.mono B2.out.size)
            generalize z.w = w5 at *
            clear p0 p1 p2 p3 p4 p5 zx zy
            have q := Q0.out
            clear Q0 CALL CALL2
            have ed := smL_bad (smTn d) m.ts m'.ts k _ _ E1.out E2.out q
            have er : Hid (smCh d m m' = false) := by show _ = _; simp [smCh, ed]
            clear q ed
            go_wp2
            go_ret
            exact ⟨by first | (rw [er.out]; rfl) | rw [er.out] | simp [er.out], BW.out _ B5.out⟩
          have SE : Hid (smTn d t1 t2 = smE (d + 1) t1.cd t2.cd) := by rw [ST.out, f1, f2, f3]; rfl
          have C1 : Hid (∀ V, Below W2.heap.size W2 V → Calls Try.prog 21 #[.agg #[.int .i64 t1.eh.op, .int .i64 t1.eh.pl, .string t1.eh.nm, .string t1.eh.fd, .int .u8 t1.eh.vk, .int .u64 t1.eh.vb, .string t1.eh.vs, .slice u3 t1.ek.length u3c, .slice u4 t1.en.length u4c, .int .u8 t1.eh.kd, .int .i64 t1.eh.ar, .int .i64 t1.eh.rf, .int .i64 t1.eh.fr, .int .i64 t1.eh.up]] V fun e w' => (∃ g, e = .returned (.slice (some ⟨g, 0, none⟩) 1 1) ∧ StL (fun b => b < w'.heap.size) (d + 2) w' (some ⟨g, 0, none⟩) [cnd 12 t1]) ∧ Below V.heap.size V w') := fun V hV => heldD d t1 u3 u4 u3c u4c V (QA.out V hV).2.2.1 (QA.out V hV).2.2.2.1 (QA.out V hV).2.2.2.2
          have C2 : Hid (∀ V, Below W2.heap.size W2 V → Calls Try.prog 21 #[.agg #[.int .i64 t2.eh.op, .int .i64 t2.eh.pl, .string t2.eh.nm, .string t2.eh.fd, .int .u8 t2.eh.vk, .int .u64 t2.eh.vb, .string t2.eh.vs, .slice v3 t2.ek.length v3c, .slice v4 t2.en.length v4c, .int .u8 t2.eh.kd, .int .i64 t2.eh.ar, .int .i64 t2.eh.rf, .int .i64 t2.eh.fr, .int .i64 t2.eh.up]] V fun e w' => (∃ g, e = .returned (.slice (some ⟨g, 0, none⟩) 1 1) ∧ StL (fun b => b < w'.heap.size) (d + 2) w' (some ⟨g, 0, none⟩) [cnd 12 t2]) ∧ Below V.heap.size V w') := fun V hV => heldD d t2 v3 v4 v3c v4c V (QB.out V hV).2.2.1 (QB.out V hV).2.2.2.1 (QB.out V hV).2.2.2.2
          have SD : Hid (∀ V g g', StL (fun b => b < V.heap.size) (d + 2) V (some ⟨g, 0, none⟩) [cnd 12 t1] → StL (fun b => b < V.heap.size) (d + 2) V (some ⟨g', 0, none⟩) [cnd 12 t2] → Calls Try.prog 20 #[.slice (some ⟨g, 0, none⟩) 1 1, .slice (some ⟨g', 0, none⟩) 1 1] V fun e w' => e = .returned (.bool (smE (d + 1) t1.cd t2.cd)) ∧ Below V.heap.size V w') := fun V g g' s1 s2 => by
            have q := sdL_of (d + 2) V _ _ [cnd 12 t1] [cnd 12 t2] 1 1 s1 s2
            rw [cnd_same] at q
            exact q
          have M1 : Hid _ := N1.out _ f2
          have M2 : Hid _ := N2.out _ f3
          clear N1 N2 ST QA QB
          generalize smE (d + 1) t1.cd t2.cd = rr at *
          have V0X : Hid (W2.drew.heap[g1]? = some (.cells #[.int .i64 t1.pl, .string t1.nm, .slice u1 t1.fr.length u1c, .slice u2 t1.to.length u2c, .int .i64 t1.eh.op, .int .i64 t1.eh.pl, .string t1.eh.nm, .string t1.eh.fd, .int .u8 t1.eh.vk, .int .u64 t1.eh.vb, .string t1.eh.vs, .slice u3 t1.ek.length u3c, .slice u4 t1.en.length u4c, .int .u8 t1.eh.kd, .int .i64 t1.eh.ar, .int .i64 t1.eh.rf, .int .i64 t1.eh.fr, .int .i64 t1.eh.up] 44 (0, 0)) ∧ W2.drew.heap[g2]? = some (.cells #[.int .i64 t2.pl, .string t2.nm, .slice v1 t2.fr.length v1c, .slice v2 t2.to.length v2c, .int .i64 t2.eh.op, .int .i64 t2.eh.pl, .string t2.eh.nm, .string t2.eh.fd, .int .u8 t2.eh.vk, .int .u64 t2.eh.vb, .string t2.eh.vs, .slice v3 t2.ek.length v3c, .slice v4 t2.en.length v4c, .int .u8 t2.eh.kd, .int .i64 t2.eh.ar, .int .i64 t2.eh.rf, .int .i64 t2.eh.fr, .int .i64 t2.eh.up] 44 (0, 0))) := ⟨OX.out, OY.out⟩
          have V0B : Hid (Below W2.heap.size W2 W2.drew) := (Below.refl _ _).drew
          refine wp_region_held_drew (S := fun V => V.heap[g1]? = some (.cells #[.int .i64 t1.pl, .string t1.nm, .slice u1 t1.fr.length u1c, .slice u2 t1.to.length u2c, .int .i64 t1.eh.op, .int .i64 t1.eh.pl, .string t1.eh.nm, .string t1.eh.fd, .int .u8 t1.eh.vk, .int .u64 t1.eh.vb, .string t1.eh.vs, .slice u3 t1.ek.length u3c, .slice u4 t1.en.length u4c, .int .u8 t1.eh.kd, .int .i64 t1.eh.ar, .int .i64 t1.eh.rf, .int .i64 t1.eh.fr, .int .i64 t1.eh.up] 44 (0, 0)) ∧ V.heap[g2]? = some (.cells #[.int .i64 t2.pl, .string t2.nm, .slice v1 t2.fr.length v1c, .slice v2 t2.to.length v2c, .int .i64 t2.eh.op, .int .i64 t2.eh.pl, .string t2.eh.nm, .string t2.eh.fd, .int .u8 t2.eh.vk, .int .u64 t2.eh.vb, .string t2.eh.vs, .slice v3 t2.ek.length v3c, .slice v4 t2.en.length v4c, .int .u8 t2.eh.kd, .int .i64 t2.eh.ar, .int .i64 t2.eh.rf, .int .i64 t2.eh.fr, .int .i64 t2.eh.up] 44 (0, 0))) (by kernel_rfl) V0X.out (fun hHeld => ?_)
          obtain ⟨V0, e0⟩ : ∃ V, V = W2.drew := ⟨_, rfl⟩
          rw [← e0] at V0X V0B hHeld ⊢
          clear e0 OX OY
          refine wpAnyH_takeD (i := 0) (d := 71) (v := .pointer (some ⟨g1, 1, none⟩)) rfl (by kernel_rfl) (by kernel_rfl) (by kernel_rfl) (by kernel_rfl) (fun _ _ _ h => h) (Or.inl ⟨by rfl, fun V hV => ?_⟩) hHeld ?_
          · go_simp
          simp only [Act.put, List.setIfInBounds_toArray, List.set_cons_succ, List.set_cons_zero]
          refine wpAnyH_takeD (i := 1) (d := 72) (v := .string t1.nm) rfl (by kernel_rfl) (by kernel_rfl) (by kernel_rfl) (by kernel_rfl) (fun _ _ _ h => h) (Or.inl ⟨by rfl, fun V hV => ?_⟩) hHeld ?_
          · have k0 : V.cell? ⟨g1, 1, none⟩ = some (.string t1.nm) := by simp [World.cell?, hV.1]
            go_simp
          simp only [Act.put, List.setIfInBounds_toArray, List.set_cons_succ, List.set_cons_zero]
          refine wpAnyH_takeD (i := 2) (d := 73) (v := .pointer (some ⟨g2, 1, none⟩)) rfl (by kernel_rfl) (by kernel_rfl) (by kernel_rfl) (by kernel_rfl) (fun _ _ _ h => h) (Or.inl ⟨by rfl, fun V hV => ?_⟩) hHeld ?_
          · go_simp
          simp only [Act.put, List.setIfInBounds_toArray, List.set_cons_succ, List.set_cons_zero]
          refine wpAnyH_takeD (i := 3) (d := 74) (v := .string t2.nm) rfl (by kernel_rfl) (by kernel_rfl) (by kernel_rfl) (by kernel_rfl) (fun _ _ _ h => h) (Or.inl ⟨by rfl, fun V hV => ?_⟩) hHeld ?_
          · have k0 : V.cell? ⟨g2, 1, none⟩ = some (.string t2.nm) := by simp [World.cell?, hV.2]
            go_simp
          simp only [Act.put, List.setIfInBounds_toArray, List.set_cons_succ, List.set_cons_zero]
          refine wpAnyH_takeD (i := 4) (d := 75) (v := .bool false) rfl (by kernel_rfl) (by kernel_rfl) (by kernel_rfl) (by kernel_rfl) (fun _ _ _ h => h) (Or.inl ⟨by rfl, fun V hV => ?_⟩) hHeld ?_
          · go_simp
          simp only [Act.put, List.setIfInBounds_toArray, List.set_cons_succ, List.set_cons_zero]
          refine wpAnyH_takeD (i := 5) (d := 76) (v := .bool false) rfl (by kernel_rfl) (by kernel_rfl) (by kernel_rfl) (by kernel_rfl) (fun _ _ _ h => h) (Or.inl ⟨by rfl, fun V hV => ?_⟩) hHeld ?_
          · go_simp
          simp only [Act.put, List.setIfInBounds_toArray, List.set_cons_succ, List.set_cons_zero]
          refine wpAnyH_takeD (i := 6) (d := 77) (v := .pointer (some ⟨g1, 2, none⟩)) rfl (by kernel_rfl) (by kernel_rfl) (by kernel_rfl) (by kernel_rfl) (fun _ _ _ h => h) (Or.inl ⟨by rfl, fun V hV => ?_⟩) hHeld ?_
          · go_simp
          simp only [Act.put, List.setIfInBounds_toArray, List.set_cons_succ, List.set_cons_zero]
          refine wpAnyH_takeD (i := 7) (d := 78) (v := .slice u1 t1.fr.length u1c) rfl (by kernel_rfl) (by kernel_rfl) (by kernel_rfl) (by kernel_rfl) (fun _ _ _ h => h) (Or.inl ⟨by rfl, fun V hV => ?_⟩) hHeld ?_
          · have k0 : V.cell? ⟨g1, 2, none⟩ = some (.slice u1 t1.fr.length u1c) := by simp [World.cell?, hV.1]
            go_simp
          simp only [Act.put, List.setIfInBounds_toArray, List.set_cons_succ, List.set_cons_zero]
          refine wpAnyH_takeD (i := 8) (d := 79) (v := .pointer (some ⟨g2, 2, none⟩)) rfl (by kernel_rfl) (by kernel_rfl) (by kernel_rfl) (by kernel_rfl) (fun _ _ _ h => h) (Or.inl ⟨by rfl, fun V hV => ?_⟩) hHeld ?_
          · go_simp
          simp only [Act.put, List.setIfInBounds_toArray, List.set_cons_succ, List.set_cons_zero]
          refine wpAnyH_takeD (i := 9) (d := 80) (v := .slice v1 t2.fr.length v1c) rfl (by kernel_rfl) (by kernel_rfl) (by kernel_rfl) (by kernel_rfl) (fun _ _ _ h => h) (Or.inl ⟨by rfl, fun V hV => ?_⟩) hHeld ?_
          · have k0 : V.cell? ⟨g2, 2, none⟩ = some (.slice v1 t2.fr.length v1c) := by simp [World.cell?, hV.2]
            go_simp
          simp only [Act.put, List.setIfInBounds_toArray, List.set_cons_succ, List.set_cons_zero]
          refine wpAnyH_ready (rs := [10]) (by kernel_rfl) (by simp) ?_
          refine AllReadyH.cons (o := _) rfl (fun K hK => ?_) AllReadyH.nil
          rw [if_pos (by rfl)]
          unfold Oper.wp execOp
          go_simp
          refine (M1.out _ V0B.out).mono ?_
          rintro e V1 ⟨rfl, hb⟩
          have V1X : Hid (V1.heap[g1]? = some (.cells #[.int .i64 t1.pl, .string t1.nm, .slice u1 t1.fr.length u1c, .slice u2 t1.to.length u2c, .int .i64 t1.eh.op, .int .i64 t1.eh.pl, .string t1.eh.nm, .string t1.eh.fd, .int .u8 t1.eh.vk, .int .u64 t1.eh.vb, .string t1.eh.vs, .slice u3 t1.ek.length u3c, .slice u4 t1.en.length u4c, .int .u8 t1.eh.kd, .int .i64 t1.eh.ar, .int .i64 t1.eh.rf, .int .i64 t1.eh.fr, .int .i64 t1.eh.up] 44 (0, 0)) ∧ V1.heap[g2]? = some (.cells #[.int .i64 t2.pl, .string t2.nm, .slice v1 t2.fr.length v1c, .slice v2 t2.to.length v2c, .int .i64 t2.eh.op, .int .i64 t2.eh.pl, .string t2.eh.nm, .string t2.eh.fd, .int .u8 t2.eh.vk, .int .u64 t2.eh.vb, .string t2.eh.vs, .slice v3 t2.ek.length v3c, .slice v4 t2.en.length v4c, .int .u8 t2.eh.kd, .int .i64 t2.eh.ar, .int .i64 t2.eh.rf, .int .i64 t2.eh.fr, .int .i64 t2.eh.up] 44 (0, 0))) := ⟨(hb.block _ (blk_in2' V0X.out.1)).trans V0X.out.1, (hb.block _ (blk_in2' V0X.out.2)).trans V0X.out.2⟩
          have V1B : Hid (Below W2.heap.size W2 V1) := V0B.out.trans (hb.mono V0B.out.size)
          refine hK.out _ _ V1X.out (fun hHeld => ?_)
          clear hK K hb
          refine wpAnyH_takeD (i := 11) (d := 82) (v := .bool false) rfl (by kernel_rfl) (by kernel_rfl) (by kernel_rfl) (by kernel_rfl) (fun _ _ _ h => h) (Or.inl ⟨by rfl, fun V hV => ?_⟩) hHeld ?_
          · go_simp
          simp only [Act.put, List.setIfInBounds_toArray, List.set_cons_succ, List.set_cons_zero]
          refine wpAnyH_takeD (i := 12) (d := 83) (v := .bool false) rfl (by kernel_rfl) (by kernel_rfl) (by kernel_rfl) (by kernel_rfl) (fun _ _ _ h => h) (Or.inl ⟨by rfl, fun V hV => ?_⟩) hHeld ?_
          · go_simp
          simp only [Act.put, List.setIfInBounds_toArray, List.set_cons_succ, List.set_cons_zero]
          refine wpAnyH_takeD (i := 13) (d := 84) (v := .bool false) rfl (by kernel_rfl) (by kernel_rfl) (by kernel_rfl) (by kernel_rfl) (fun _ _ _ h => h) (Or.inl ⟨by rfl, fun V hV => ?_⟩) hHeld ?_
          · go_simp
          simp only [Act.put, List.setIfInBounds_toArray, List.set_cons_succ, List.set_cons_zero]
          refine wpAnyH_takeD (i := 14) (d := 85) (v := .pointer (some ⟨g1, 3, none⟩)) rfl (by kernel_rfl) (by kernel_rfl) (by kernel_rfl) (by kernel_rfl) (fun _ _ _ h => h) (Or.inl ⟨by rfl, fun V hV => ?_⟩) hHeld ?_
          · go_simp
          simp only [Act.put, List.setIfInBounds_toArray, List.set_cons_succ, List.set_cons_zero]
          refine wpAnyH_takeD (i := 15) (d := 86) (v := .slice u2 t1.to.length u2c) rfl (by kernel_rfl) (by kernel_rfl) (by kernel_rfl) (by kernel_rfl) (fun _ _ _ h => h) (Or.inl ⟨by rfl, fun V hV => ?_⟩) hHeld ?_
          · have k0 : V.cell? ⟨g1, 3, none⟩ = some (.slice u2 t1.to.length u2c) := by simp [World.cell?, hV.1]
            go_simp
          simp only [Act.put, List.setIfInBounds_toArray, List.set_cons_succ, List.set_cons_zero]
          refine wpAnyH_takeD (i := 16) (d := 87) (v := .pointer (some ⟨g2, 3, none⟩)) rfl (by kernel_rfl) (by kernel_rfl) (by kernel_rfl) (by kernel_rfl) (fun _ _ _ h => h) (Or.inl ⟨by rfl, fun V hV => ?_⟩) hHeld ?_
          · go_simp
          simp only [Act.put, List.setIfInBounds_toArray, List.set_cons_succ, List.set_cons_zero]
          refine wpAnyH_takeD (i := 17) (d := 88) (v := .slice v2 t2.to.length v2c) rfl (by kernel_rfl) (by kernel_rfl) (by kernel_rfl) (by kernel_rfl) (fun _ _ _ h => h) (Or.inl ⟨by rfl, fun V hV => ?_⟩) hHeld ?_
          · have k0 : V.cell? ⟨g2, 3, none⟩ = some (.slice v2 t2.to.length v2c) := by simp [World.cell?, hV.2]
            go_simp
          simp only [Act.put, List.setIfInBounds_toArray, List.set_cons_succ, List.set_cons_zero]
          refine wpAnyH_ready (rs := [18]) (by kernel_rfl) (by simp) ?_
          refine AllReadyH.cons (o := _) rfl (fun K hK => ?_) AllReadyH.nil
          rw [if_pos (by rfl)]
          unfold Oper.wp execOp
          go_simp
          refine (M2.out _ V1B.out).mono ?_
          rintro e V2 ⟨rfl, hb⟩
          have V2X : Hid (V2.heap[g1]? = some (.cells #[.int .i64 t1.pl, .string t1.nm, .slice u1 t1.fr.length u1c, .slice u2 t1.to.length u2c, .int .i64 t1.eh.op, .int .i64 t1.eh.pl, .string t1.eh.nm, .string t1.eh.fd, .int .u8 t1.eh.vk, .int .u64 t1.eh.vb, .string t1.eh.vs, .slice u3 t1.ek.length u3c, .slice u4 t1.en.length u4c, .int .u8 t1.eh.kd, .int .i64 t1.eh.ar, .int .i64 t1.eh.rf, .int .i64 t1.eh.fr, .int .i64 t1.eh.up] 44 (0, 0)) ∧ V2.heap[g2]? = some (.cells #[.int .i64 t2.pl, .string t2.nm, .slice v1 t2.fr.length v1c, .slice v2 t2.to.length v2c, .int .i64 t2.eh.op, .int .i64 t2.eh.pl, .string t2.eh.nm, .string t2.eh.fd, .int .u8 t2.eh.vk, .int .u64 t2.eh.vb, .string t2.eh.vs, .slice v3 t2.ek.length v3c, .slice v4 t2.en.length v4c, .int .u8 t2.eh.kd, .int .i64 t2.eh.ar, .int .i64 t2.eh.rf, .int .i64 t2.eh.fr, .int .i64 t2.eh.up] 44 (0, 0))) := ⟨(hb.block _ (blk_in2' V1X.out.1)).trans V1X.out.1, (hb.block _ (blk_in2' V1X.out.2)).trans V1X.out.2⟩
          have V2B : Hid (Below W2.heap.size W2 V2) := V1B.out.trans (hb.mono V1B.out.size)
          refine hK.out _ _ V2X.out (fun hHeld => ?_)
          clear hK K hb
          refine wpAnyH_takeD (i := 19) (d := 90) (v := .bool false) rfl (by kernel_rfl) (by kernel_rfl) (by kernel_rfl) (by kernel_rfl) (fun _ _ _ h => h) (Or.inl ⟨by rfl, fun V hV => ?_⟩) hHeld ?_
          · go_simp
          simp only [Act.put, List.setIfInBounds_toArray, List.set_cons_succ, List.set_cons_zero]
          refine wpAnyH_takeD (i := 20) (d := 91) (v := .bool false) rfl (by kernel_rfl) (by kernel_rfl) (by kernel_rfl) (by kernel_rfl) (fun _ _ _ h => h) (Or.inl ⟨by rfl, fun V hV => ?_⟩) hHeld ?_
          · go_simp
          simp only [Act.put, List.setIfInBounds_toArray, List.set_cons_succ, List.set_cons_zero]
          refine wpAnyH_takeD (i := 21) (d := 92) (v := .bool false) rfl (by kernel_rfl) (by kernel_rfl) (by kernel_rfl) (by kernel_rfl) (fun _ _ _ h => h) (Or.inl ⟨by rfl, fun V hV => ?_⟩) hHeld ?_
          · go_simp
          simp only [Act.put, List.setIfInBounds_toArray, List.set_cons_succ, List.set_cons_zero]
          refine wpAnyH_takeD (i := 22) (d := 93) (v := .pointer (some ⟨g1, 4, none⟩)) rfl (by kernel_rfl) (by kernel_rfl) (by kernel_rfl) (by kernel_rfl) (fun _ _ _ h => h) (Or.inl ⟨by rfl, fun V hV => ?_⟩) hHeld ?_
          · go_simp
          simp only [Act.put, List.setIfInBounds_toArray, List.set_cons_succ, List.set_cons_zero]
          refine wpAnyH_takeD (i := 23) (d := 94) (v := .agg #[.int .i64 t1.eh.op, .int .i64 t1.eh.pl, .string t1.eh.nm, .string t1.eh.fd, .int .u8 t1.eh.vk, .int .u64 t1.eh.vb, .string t1.eh.vs, .slice u3 t1.ek.length u3c, .slice u4 t1.en.length u4c, .int .u8 t1.eh.kd, .int .i64 t1.eh.ar, .int .i64 t1.eh.rf, .int .i64 t1.eh.fr, .int .i64 t1.eh.up]) rfl (by kernel_rfl) (by kernel_rfl) (by kernel_rfl) (by kernel_rfl) (fun _ _ _ h => h) (yieldsIf_load_mid (by rfl) 42 (.tmp 93) rfl g1 4 rfl [.int .i64 t1.eh.op, .int .i64 t1.eh.pl, .string t1.eh.nm, .string t1.eh.fd, .int .u8 t1.eh.vk, .int .u64 t1.eh.vb, .string t1.eh.vs, .slice u3 t1.ek.length u3c, .slice u4 t1.en.length u4c, .int .u8 t1.eh.kd, .int .i64 t1.eh.ar, .int .i64 t1.eh.rf, .int .i64 t1.eh.fr, .int .i64 t1.eh.up] _ (fun V hV j v hv => by have q := row_range hV.1 (j + 4) v (by simpa using hv); simpa [Nat.add_comm] using q) Try.underlying42 rfl (show (Try.prog.info? 42).map (·.size) = some 14 by kernel_rfl)) hHeld ?_
          simp only [Act.put, List.setIfInBounds_toArray, List.set_cons_succ, List.set_cons_zero]
          refine wpAnyH_takeD (i := 25) (d := 96) (v := .pointer (some ⟨g2, 4, none⟩)) rfl (by kernel_rfl) (by kernel_rfl) (by kernel_rfl) (by kernel_rfl) (fun _ _ _ h => h) (Or.inl ⟨by rfl, fun V hV => ?_⟩) hHeld ?_
          · go_simp
          simp only [Act.put, List.setIfInBounds_toArray, List.set_cons_succ, List.set_cons_zero]
          refine wpAnyH_takeD (i := 26) (d := 97) (v := .agg #[.int .i64 t2.eh.op, .int .i64 t2.eh.pl, .string t2.eh.nm, .string t2.eh.fd, .int .u8 t2.eh.vk, .int .u64 t2.eh.vb, .string t2.eh.vs, .slice v3 t2.ek.length v3c, .slice v4 t2.en.length v4c, .int .u8 t2.eh.kd, .int .i64 t2.eh.ar, .int .i64 t2.eh.rf, .int .i64 t2.eh.fr, .int .i64 t2.eh.up]) rfl (by kernel_rfl) (by kernel_rfl) (by kernel_rfl) (by kernel_rfl) (fun _ _ _ h => h) (yieldsIf_load_mid (by rfl) 42 (.tmp 96) rfl g2 4 rfl [.int .i64 t2.eh.op, .int .i64 t2.eh.pl, .string t2.eh.nm, .string t2.eh.fd, .int .u8 t2.eh.vk, .int .u64 t2.eh.vb, .string t2.eh.vs, .slice v3 t2.ek.length v3c, .slice v4 t2.en.length v4c, .int .u8 t2.eh.kd, .int .i64 t2.eh.ar, .int .i64 t2.eh.rf, .int .i64 t2.eh.fr, .int .i64 t2.eh.up] _ (fun V hV j v hv => by have q := row_range hV.2 (j + 4) v (by simpa using hv); simpa [Nat.add_comm] using q) Try.underlying42 rfl (show (Try.prog.info? 42).map (·.size) = some 14 by kernel_rfl)) hHeld ?_
          simp only [Act.put, List.setIfInBounds_toArray, List.set_cons_succ, List.set_cons_zero]
          refine wpAnyH_ready (rs := [24]) (by kernel_rfl) (by simp) ?_
          refine AllReadyH.cons (o := _) rfl (fun K hK => ?_) AllReadyH.nil
          rw [if_pos (by rfl)]
          unfold Oper.wp execOp
          go_simp
          refine (C1.out _ V2B.out).mono ?_
          rintro e V3 ⟨⟨h1, rfl, hs1⟩, hb⟩
          have V3X : Hid (V3.heap[g1]? = some (.cells #[.int .i64 t1.pl, .string t1.nm, .slice u1 t1.fr.length u1c, .slice u2 t1.to.length u2c, .int .i64 t1.eh.op, .int .i64 t1.eh.pl, .string t1.eh.nm, .string t1.eh.fd, .int .u8 t1.eh.vk, .int .u64 t1.eh.vb, .string t1.eh.vs, .slice u3 t1.ek.length u3c, .slice u4 t1.en.length u4c, .int .u8 t1.eh.kd, .int .i64 t1.eh.ar, .int .i64 t1.eh.rf, .int .i64 t1.eh.fr, .int .i64 t1.eh.up] 44 (0, 0)) ∧ V3.heap[g2]? = some (.cells #[.int .i64 t2.pl, .string t2.nm, .slice v1 t2.fr.length v1c, .slice v2 t2.to.length v2c, .int .i64 t2.eh.op, .int .i64 t2.eh.pl, .string t2.eh.nm, .string t2.eh.fd, .int .u8 t2.eh.vk, .int .u64 t2.eh.vb, .string t2.eh.vs, .slice v3 t2.ek.length v3c, .slice v4 t2.en.length v4c, .int .u8 t2.eh.kd, .int .i64 t2.eh.ar, .int .i64 t2.eh.rf, .int .i64 t2.eh.fr, .int .i64 t2.eh.up] 44 (0, 0))) := ⟨(hb.block _ (blk_in2' V2X.out.1)).trans V2X.out.1, (hb.block _ (blk_in2' V2X.out.2)).trans V2X.out.2⟩
          have V3B : Hid (Below W2.heap.size W2 V3) := V2B.out.trans (hb.mono V2B.out.size)
          have S1 : Hid (StL (fun b => b < V3.heap.size) (d + 2) V3 (some ⟨h1, 0, none⟩) [cnd 12 t1]) := hs1
          clear hs1
          refine hK.out _ _ V3X.out (fun hHeld => ?_)
          clear hK K hb
          refine wpAnyH_ready (rs := [27]) (by kernel_rfl) (by simp) ?_
          refine AllReadyH.cons (o := _) rfl (fun K hK => ?_) AllReadyH.nil
          rw [if_pos (by rfl)]
          unfold Oper.wp execOp
          go_simp
          refine (C2.out _ V3B.out).mono ?_
          rintro e V4 ⟨⟨h2, rfl, hs2⟩, hb⟩
          have V4X : Hid (V4.heap[g1]? = some (.cells #[.int .i64 t1.pl, .string t1.nm, .slice u1 t1.fr.length u1c, .slice u2 t1.to.length u2c, .int .i64 t1.eh.op, .int .i64 t1.eh.pl, .string t1.eh.nm, .string t1.eh.fd, .int .u8 t1.eh.vk, .int .u64 t1.eh.vb, .string t1.eh.vs, .slice u3 t1.ek.length u3c, .slice u4 t1.en.length u4c, .int .u8 t1.eh.kd, .int .i64 t1.eh.ar, .int .i64 t1.eh.rf, .int .i64 t1.eh.fr, .int .i64 t1.eh.up] 44 (0, 0)) ∧ V4.heap[g2]? = some (.cells #[.int .i64 t2.pl, .string t2.nm, .slice v1 t2.fr.length v1c, .slice v2 t2.to.length v2c, .int .i64 t2.eh.op, .int .i64 t2.eh.pl, .string t2.eh.nm, .string t2.eh.fd, .int .u8 t2.eh.vk, .int .u64 t2.eh.vb, .string t2.eh.vs, .slice v3 t2.ek.length v3c, .slice v4 t2.en.length v4c, .int .u8 t2.eh.kd, .int .i64 t2.eh.ar, .int .i64 t2.eh.rf, .int .i64 t2.eh.fr, .int .i64 t2.eh.up] 44 (0, 0))) := ⟨(hb.block _ (blk_in2' V3X.out.1)).trans V3X.out.1, (hb.block _ (blk_in2' V3X.out.2)).trans V3X.out.2⟩
          have V4B : Hid (Below W2.heap.size W2 V4) := V3B.out.trans (hb.mono V3B.out.size)
          have S1' : Hid (StL (fun b => b < V4.heap.size) (d + 2) V4 (some ⟨h1, 0, none⟩) [cnd 12 t1]) := S1.out.on hb
          have S2 : Hid (StL (fun b => b < V4.heap.size) (d + 2) V4 (some ⟨h2, 0, none⟩) [cnd 12 t2]) := hs2
          clear hs2
          refine hK.out _ _ V4X.out (fun hHeld => ?_)
          clear hK K hb
          refine wpAnyH_ready (rs := [28]) (by kernel_rfl) (by simp) ?_
          refine AllReadyH.cons (o := _) rfl (fun K hK => ?_) AllReadyH.nil
          rw [if_pos (by rfl)]
          unfold Oper.wp execOp
          go_simp
          refine (SD.out _ _ _ S1'.out S2.out).mono ?_
          rintro e V5 ⟨rfl, hb⟩
          have V5X : Hid (V5.heap[g1]? = some (.cells #[.int .i64 t1.pl, .string t1.nm, .slice u1 t1.fr.length u1c, .slice u2 t1.to.length u2c, .int .i64 t1.eh.op, .int .i64 t1.eh.pl, .string t1.eh.nm, .string t1.eh.fd, .int .u8 t1.eh.vk, .int .u64 t1.eh.vb, .string t1.eh.vs, .slice u3 t1.ek.length u3c, .slice u4 t1.en.length u4c, .int .u8 t1.eh.kd, .int .i64 t1.eh.ar, .int .i64 t1.eh.rf, .int .i64 t1.eh.fr, .int .i64 t1.eh.up] 44 (0, 0)) ∧ V5.heap[g2]? = some (.cells #[.int .i64 t2.pl, .string t2.nm, .slice v1 t2.fr.length v1c, .slice v2 t2.to.length v2c, .int .i64 t2.eh.op, .int .i64 t2.eh.pl, .string t2.eh.nm, .string t2.eh.fd, .int .u8 t2.eh.vk, .int .u64 t2.eh.vb, .string t2.eh.vs, .slice v3 t2.ek.length v3c, .slice v4 t2.en.length v4c, .int .u8 t2.eh.kd, .int .i64 t2.eh.ar, .int .i64 t2.eh.rf, .int .i64 t2.eh.fr, .int .i64 t2.eh.up] 44 (0, 0))) := ⟨(hb.block _ (blk_in2' V4X.out.1)).trans V4X.out.1, (hb.block _ (blk_in2' V4X.out.2)).trans V4X.out.2⟩
          have V5B : Hid (Below W2.heap.size W2 V5) := V4B.out.trans (hb.mono V4B.out.size)
          refine hK.out _ _ V5X.out (fun hHeld => ?_)
          clear hK K hb
          have B5 : Hid (Below W.heap.size W V5) := B2.out.trans (V5B.out.mono B2.out.size)
          clear V0X V1X V2X V3X V4X V0B V1B V2B V3B V4B V5B S1 S1' S2 SD C1 C2 M1 M2
          cases rr
          · refine wpAnyH_takeD (i := 29) (d := 100) (v := .bool true) rfl (by kernel_rfl) (by kernel_rfl) (by kernel_rfl) (by kernel_rfl) (fun _ _ _ h => h) (Or.inl ⟨by rfl, fun V hV => ?_⟩) hHeld ?_
            · go_simp
            simp only [Act.put, List.setIfInBounds_toArray, List.set_cons_succ, List.set_cons_zero]
            refine wpAnyH_takeD (i := 30) (d := 101) (v := .bool true) rfl (by kernel_rfl) (by kernel_rfl) (by kernel_rfl) (by kernel_rfl) (fun _ _ _ h => h) (Or.inl ⟨by rfl, fun V hV => ?_⟩) hHeld ?_
            · go_simp
            simp only [Act.put, List.setIfInBounds_toArray, List.set_cons_succ, List.set_cons_zero]
            refine wpAnyH_done (by kernel_rfl) ?_ _
            go_step
            have q := SE.out
            clear SE
            have ed := smL_bad (smTn d) m.ts m'.ts k _ _ E1.out E2.out q
            have er : Hid (smCh d m m' = false) := by show _ = _; simp [smCh, ed]
            clear q ed
            go_wp2
            go_ret
            exact ⟨by first | (rw [er.out]; rfl) | rw [er.out] | simp [er.out], BW.out _ B5.out⟩
          · refine wpAnyH_takeD (i := 29) (d := 100) (v := .bool false) rfl (by kernel_rfl) (by kernel_rfl) (by kernel_rfl) (by kernel_rfl) (fun _ _ _ h => h) (Or.inl ⟨by rfl, fun V hV => ?_⟩) hHeld ?_
            · go_simp
            simp only [Act.put, List.setIfInBounds_toArray, List.set_cons_succ, List.set_cons_zero]
            refine wpAnyH_takeD (i := 30) (d := 101) (v := .bool false) rfl (by kernel_rfl) (by kernel_rfl) (by kernel_rfl) (by kernel_rfl) (fun _ _ _ h => h) (Or.inl ⟨by rfl, fun V hV => ?_⟩) hHeld ?_
            · go_simp
            simp only [Act.put, List.setIfInBounds_toArray, List.set_cons_succ, List.set_cons_zero]
            refine wpAnyH_done (by kernel_rfl) ?_ _
            go_step
            have Q : Hid (smTn d t1 t2 = true) := SE.out
            have ew : wrap64 ((k : Int) + 1) = (k : Int) + 1 := by have := FW.out.2.1; have := LT.out; unfold wrap64; omega
            go_wp2
            try rw [ew]
            exact ⟨⟨k + 1, Nat.succ_le_of_lt LT.out, rfl, B5.out, fun j e e' hj a b => by
              rcases Nat.lt_succ_iff_lt_or_eq.1 hj with h | rfl
              · exact AL.out j e e' h a b
              · rw [E1.out] at a; rw [E2.out] at b; cases a; cases b; exact Q.out⟩, msr LT.out⟩
        · have kl : ¬ (k : Int) < m.ts.length := by omega
          have R2 : Hid (smL (smTn d) m.ts m'.ts = true) := smL_all (smTn d) m.ts m'.ts L2.out fun i e e' a b => AL.out i e e' (by
            apply Classical.byContradiction
            intro q
            rw [List.getElem?_eq_none (by omega)] at a
            cases a) a b
          obtain ⟨a0, a1, a2, a3, a4, a5⟩ := CA.out wr HW.out
          clear hbw hlt hk AL
          go_upto_region 16 with fail
          clear a0 a1 a2 a3 a4 a5
          have HX : Hid (Below W.heap.size W wr) := HW.out
          clear HW B3
          go_loopw [9] (fun i wr => ∃ k : Nat, k ≤ m.ac.length ∧ i = .int .i64 k ∧ Below W.heap.size W wr ∧ ∀ (j : Nat) e e', j < k → m.ac[j]? = some e → m'.ac[j]? = some e' → smAc d e e' = true) (fun i _ => m.ac.length - (intOf i).toNat)
          case atStart => exact ⟨0, Nat.zero_le _, rfl, HX.out, fun j _ _ hj => absurd hj (Nat.not_lt_zero _)⟩
          case round =>
            clear HX
            try clear wr
            obtain ⟨k, hk, rfl, hbw, hall⟩ := hrel
            rename World => wr
            have HW : Hid (Below W.heap.size W wr) := hbw
            have AL : Hid (∀ (j : Nat) e e', j < k → m.ac[j]? = some e → m'.ac[j]? = some e' → smAc d e e' = true) := hall
            clear hall
            have B3 : Hid (∀ V, Below wr.heap.size wr V → Below W.heap.size W V) := fun V h => HW.out.trans (h.mono HW.out.size)
            by_cases hlt : k < m.ac.length
            · obtain ⟨a, rfl⟩ := HA.out.2.2.some (by omega)
              obtain ⟨b, rfl⟩ := HB.out.2.2.some (by have := L3.out; omega)
              have hb2 : Below w.heap.size w wr := BW.out wr hbw
              obtain ⟨t1, vs1, ee1, hp1, ⟨p1, q1, rfl, v1⟩, sk1⟩ := (rw_frK (keptAc d) (w' := wr) HA.out.2.2 (old_fr hb2)).el k hlt
              obtain ⟨t2, vs2, ee2, hp2, ⟨p2, q2, rfl, v2⟩, sk2⟩ := (rw_frK (keptAc d) (w' := wr) HB.out.2.2 (old_fr hb2)).el k (by have := L3.out; omega)
              have E1 : Hid (m.ac[k]? = some t1) := ee1
              have E2 : Hid (m'.ac[k]? = some t2) := ee2
              have LT : Hid (k < m.ac.length) := hlt
              have kl : (k : Int) < m.ac.length := by omega
              have kl' : (k : Int) < m'.ac.length := by have := L3.out; omega
              have c0 := sk1.c0
              have c1' := sk1.cp 0 _ rfl
              have c2' := sk1.cp 1 _ rfl
              have d0 := sk2.c0
              have d1 := sk2.cp 0 _ rfl
              have d2 := sk2.cp 1 _ rfl
              have za := block_lt_of_cell c0
              have zb := block_lt_of_cell d0
              have CALL : Hid (∀ z : Sub wr, Calls Try.prog 20 #[.slice p1 t1.bd.length q1, .slice p2 t2.bd.length q2] z.w fun e w' => e = .returned (.bool (smL (smS d) t1.bd t2.bd)) ∧ Below z.w.heap.size z.w w') := fun z => by
                have hz : Below w.heap.size w z.w := BW.out _ (B3.out _ z.h)
                exact sdL_of d z.w p1 p2 t1.bd t2.bd q1 q2 ((v1.fr (fun q hq => z.h.cell (UP.out _ (BW.out wr HW.out) _ hq))).sub (UP.out _ hz)) ((v2.fr (fun q hq => z.h.cell (UP.out _ (BW.out wr HW.out) _ hq))).sub (UP.out _ hz))
              have SA : Hid (smAc d t1 t2 = ((t1.nm.toList == t2.nm.toList) && smL (smS d) t1.bd t2.bd)) := rfl
              generalize smL (smS d) t1.bd t2.bd = rr at *
              have a2 : ∀ z : Sub wr, z.w.cell? ⟨gx, 2, none⟩ = some (.slice (some a) m.ac.length c3) := fun z => (CA.out z.w (B3.out _ z.h)).2.2.1
              have a5 : ∀ z : Sub wr, z.w.cell? ⟨gx + 1, 2, none⟩ = some (.slice (some b) m'.ac.length e3) := fun z => (CA.out z.w (B3.out _ z.h)).2.2.2.2.2
              have i1 : ∀ z : Sub wr, z.w.cell? ⟨(a.add (k * 3)).block, (a.add (k * 3)).off + 1, none⟩ = some (.string t1.nm) := fun z => (z.h.cell (p := ⟨(a.add (k * 3)).block, (a.add (k * 3)).off + 1, none⟩) za).trans c1'
              have i2 : ∀ z : Sub wr, z.w.cell? ⟨(a.add (k * 3)).block, (a.add (k * 3)).off + 2, none⟩ = some (.slice p1 t1.bd.length q1) := fun z => (z.h.cell (p := ⟨(a.add (k * 3)).block, (a.add (k * 3)).off + 2, none⟩) za).trans c2'
              have j1 : ∀ z : Sub wr, z.w.cell? ⟨(b.add (k * 3)).block, (b.add (k * 3)).off + 1, none⟩ = some (.string t2.nm) := fun z => (z.h.cell (p := ⟨(b.add (k * 3)).block, (b.add (k * 3)).off + 1, none⟩) zb).trans d1
              have j2 : ∀ z : Sub wr, z.w.cell? ⟨(b.add (k * 3)).block, (b.add (k * 3)).off + 2, none⟩ = some (.slice p2 t2.bd.length q2) := fun z => (z.h.cell (p := ⟨(b.add (k * 3)).block, (b.add (k * 3)).off + 2, none⟩) zb).trans d2
              obtain ⟨b0, b1, b2, b3, b4, b5⟩ := CA.out wr HW.out
              clear hbw hlt ee1 ee2 hp1 hp2 sk1 sk2 v1 v2 hb2 c0 c1' c2' d0 d1 d2 za zb
              go_upto_region 18 with fail
              clear b0 b1 b2 b3 b4 b5
              cases f1 : (t1.nm.toList == t2.nm.toList)
              · have g1 : (t1.nm.toList != t2.nm.toList) = true := by simp [bne, f1]
                refine wp_region_sub2 (by kernel_rfl) (by kernel_rfl) ?_
                intro cx
                clear cx
                repeat (first | go_big_quiet_skip | (go_big_quiet_want; go_big_quiet_op; first | go_big_quiet_on | (refine ⟨_, fun _ => rfl, ?_⟩; go_big_quiet_on) | go_big_quiet_call (first | (go_at_call 20; exact calls_sub (CALL.out _)))))
                refine wpQuiet_nil ?_
                rintro _ ⟨z, rfl⟩
                have B5 : Hid (Below W.heap.size W z.w) := B3.out _ z.h
                generalize z.w = w5 at *
                clear a2 a5 i1 i2 j1 j2 CALL
                have q : smAc d t1 t2 = false := by rw [SA.out, f1]; rfl
                have ed := smL_bad (smAc d) m.ac m'.ac k _ _ E1.out E2.out q
                have er : Hid (smCh d m m' = false) := by show _ = _; simp [smCh, ed]
                clear q ed
                go_wp2
                go_ret
                exact ⟨by first | (rw [er.out]; rfl) | rw [er.out] | simp [er.out], BW.out _ B5.out⟩
              · have g1 : (t1.nm.toList != t2.nm.toList) = false := by simp [bne, f1]
                refine wp_region_sub2 (by kernel_rfl) (by kernel_rfl) ?_
                intro cx
                clear cx
                repeat (first | go_big_quiet_skip | (go_big_quiet_want; go_big_quiet_op; first | go_big_quiet_on | (refine ⟨_, fun _ => rfl, ?_⟩; go_big_quiet_on) | go_big_quiet_call (first | (go_at_call 20; exact calls_sub (CALL.out _)))))
                refine wpQuiet_nil ?_
                rintro _ ⟨z, rfl⟩
                have B5 : Hid (Below W.heap.size W z.w) := B3.out _ z.h
                generalize z.w = w5 at *
                clear a2 a5 i1 i2 j1 j2 CALL
                cases rr
                · have q : smAc d t1 t2 = false := by rw [SA.out, f1]; rfl
                  have ed := smL_bad (smAc d) m.ac m'.ac k _ _ E1.out E2.out q
                  have er : Hid (smCh d m m' = false) := by show _ = _; simp [smCh, ed]
                  clear q ed
                  go_wp2
                  go_ret
                  exact ⟨by first | (rw [er.out]; rfl) | rw [er.out] | simp [er.out], BW.out _ B5.out⟩
                · have Q : Hid (smAc d t1 t2 = true) := by rw [SA.out, f1]; rfl
                  have ew : wrap64 ((k : Int) + 1) = (k : Int) + 1 := by have := FW.out.2.2; have := LT.out; unfold wrap64; omega
                  go_wp2
                  try rw [ew]
                  exact ⟨⟨k + 1, Nat.succ_le_of_lt LT.out, rfl, B5.out, fun j e e' hj a b => by
                    rcases Nat.lt_succ_iff_lt_or_eq.1 hj with h | rfl
                    · exact AL.out j e e' h a b
                    · rw [E1.out] at a; rw [E2.out] at b; cases a; cases b; exact Q.out⟩, msr LT.out⟩
            · have kl : ¬ (k : Int) < m.ac.length := by omega
              have R3 : Hid (smL (smAc d) m.ac m'.ac = true) := smL_all (smAc d) m.ac m'.ac L3.out fun i e e' a b => AL.out i e e' (by
                apply Classical.byContradiction
                intro q
                rw [List.getElem?_eq_none (by omega)] at a
                cases a) a b
              obtain ⟨a0, a1, a2, a3, a4, a5⟩ := CA.out wr HW.out
              clear hbw hlt hk AL
              have er : Hid (smCh d m m' = true) := by show _ = _; simp [smCh, R1.out, R2.out, R3.out]
              go_wp2
              go_ret
              exact ⟨by first | (rw [er.out]; rfl) | rw [er.out] | simp [er.out], BW.out _ HW.out⟩
end Go.Proofs.Ytcoeinfopfcekaa
