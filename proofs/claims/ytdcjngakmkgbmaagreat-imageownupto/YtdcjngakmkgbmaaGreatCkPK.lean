/- image: the first task that may not be; no statement of the seat is proved here. -/
import Derived.Test.YtdcjngakmkgbmaaGreatKoB3
import Derived.Test.YtdcjngakmkgbmaaGreatKoA7
namespace Go.Proofs.YtdcjngakmkgbmaaGreat
set_option linter.unusedVariables false
open Go.RowKit
/-- What a look at all tasks answers. -/
def jbV (m : ImR) : Value := match fstN (fun i => decide (jbAt m i = 0)) m.js.length with
  | some i => .agg #[.int .i64 i, .int .i64 0, .int .i64 (jbAt m i)]
  | none => .agg #[.int .i64 0, .int .i64 0, .int .i64 0]
theorem jb_some {m : ImR} {k : Nat} {e : Int} (hk : k < m.js.length) (h : ∀ j, j < k → jbAt m j = 0) (hf : jbAt m k = e) (he : e ≠ 0) : jbV m = .agg #[.int .i64 k, .int .i64 0, .int .i64 e] := by
  unfold jbV
  rw [fstN_some hk (fun j hj => by simp [h j hj]) (by rw [hf]; simp [he])]
  show Value.agg #[.int .i64 k, .int .i64 0, .int .i64 (jbAt m k)] = _
  rw [hf]
theorem jb_none {m : ImR} (h : ∀ j, j < m.js.length → jbAt m j = 0) : jbV m = .agg #[.int .i64 0, .int .i64 0, .int .i64 0] := by
  unfold jbV
  rw [fstN_none (fun j hj => by simp [h j hj])]
def setJ (l : List JbR) (k : Nat) : List ByteArray := (l.take k).map (·.nm)
theorem setJ_succ (l : List JbR) (k : Nat) (c : JbR) (h : l[k]? = some c) : setJ l (k + 1) = setJ l k ++ [c.nm] := by
  unfold setJ
  rw [List.take_add_one, h]
  simp
theorem setJ_any (l : List JbR) (k : Nat) (s : ByteArray) : (l.take k).any (fun x => decide (x.nm = s)) = (setJ l k).any (fun x => decide (x = s)) := by
  unfold setJ
  rw [List.any_map]
  rfl
set_option maxRecDepth 20000 in
set_option maxHeartbeats 8000000 in
theorem jobFlaw_of (m : ImR) (x1 x2 x3 : Option Addr) (p1 p2 p3 : Nat) (w : World) {S : Nat → Prop} (hS : ∀ b, S b → b < w.heap.size) (h1 : RwF 11 (Is ceC) S w x1 m.cs) (h2 : RwF 8 (FlP S w) S w x2 m.fs) (h3 : RwF 7 (JbP S w) S w x3 m.js) (ho : ∀ j ∈ m.js, JbOk j)
    (hn : m.cs.length ≤ 1048576) (hm : m.fs.length ≤ 1048576) (hl : m.js.length ≤ 1048576) (hc : ∀ f ∈ m.fs, 0 ≤ f.ce ∧ f.ce ≤ 4096) :
    Calls Tryz.prog 24 #[.agg #[.string m.nm, .slice x1 m.cs.length p1, .slice x2 m.fs.length p2, .slice x3 m.js.length p3]] w fun e w' => e = .returned (jbV m) ∧ Below w.heap.size w w' := by
  have HA : Hid (RwF 7 (JbP S w) S w x3 m.js) := h3
  have HS : Hid (∀ b, S b → b < w.heap.size) := hS
  have HO : Hid (∀ j ∈ m.js, JbOk j) := ho
  have HL : Hid (m.js.length ≤ 1048576) := hl
  have SV : Hid (∀ V, Below w.heap.size w V → ∀ b, S b → b < V.heap.size) := fun V h b hb => Nat.lt_of_lt_of_le (hS b hb) h.size
  have FV : Hid (∀ V, Below w.heap.size w V → FrS S w V) := fun V h q hq => h.cell (hS _ hq)
  have C1 : Hid (∀ V, Below w.heap.size w V → ∀ (j : JbR) (y1 y2 : Option Addr) (c1 c2 : Nat), Calls Tryz.prog 55 #[JbV j y1 y2 c1 c2, .slice x1 m.cs.length p1] V fun e w' => e = .returned (.bool (trB m j)) ∧ Below V.heap.size V w') := fun V h j y1 y2 c1 c2 => mayTrigger_of m j y1 y2 c1 c2 x1 p1 V (SV.out V h) (h1.fr (FV.out V h)) hn
  have C2 : Hid (∀ V, Below w.heap.size w V → ∀ (j : JbR) (y1 y2 : Option Addr) (c1 c2 : Nat), JbQ S V j y1 y2 → Calls Tryz.prog 56 #[JbV j y1 y2 c1 c2, ImB m x1 x2 x3 p1 p2 p3] V fun e w' => e = .returned (.bool (rnB m j)) ∧ Below V.heap.size V w') := fun V h j y1 y2 c1 c2 q => mayRun_of m j y1 y2 c1 c2 x1 x2 x3 p1 p2 p3 V (SV.out V h) q (h2.frK keptF (FV.out V h)) hn hm hc
  clear hS h1 h2 h3 ho hn hm hl hc
  generalize hv : jbV m = VV
  have HV : Hid (jbV m = VV) := hv
  clear hv
  have mm := mk_map
  obtain ⟨AW, eW⟩ : ∃ AW, AW = ((w.alloc (.cells #[.string m.nm, .slice x1 m.cs.length p1, .slice x2 m.fs.length p2, .slice x3 m.js.length p3] 26 (0, 0))).alloc (.cells #[.int .i64 0, .int .i64 0, .int .i64 0] 72 (0, 0))).alloc (.map #[] 0) := ⟨_, rfl⟩
  have AB : Hid (Below w.heap.size w AW) := by rw [eW]; exact (((Below.refl _ _).alloc (Nat.le_refl _) _).alloc (by simp) _).alloc (by simp; omega) _
  have AZ : Hid (AW.heap[w.heap.size + 1]? = some (.cells #[.int .i64 0, .int .i64 0, .int .i64 0] 72 (0, 0))) := by rw [eW]; exact (Below.heap_alloc _ _ _ (by simp)).trans (tw_at w _ _).2
  have AX : Hid (AW.heap[w.heap.size]? = some (.cells #[.string m.nm, .slice x1 m.cs.length p1, .slice x2 m.fs.length p2, .slice x3 m.js.length p3] 26 (0, 0))) := by rw [eW]; exact (Below.heap_alloc _ _ _ (by simp; omega)).trans (tw_at w _ _).1
  have AM : Hid (SetS AW (w.heap.size + 1 + 1) 0 []) := by rw [eW]; have := SetS.made ((w.alloc (.cells #[.string m.nm, .slice x1 m.cs.length p1, .slice x2 m.fs.length p2, .slice x3 m.js.length p3] 26 (0, 0))).alloc (.cells #[.int .i64 0, .int .i64 0, .int .i64 0] 72 (0, 0))); simp only [World.size_alloc] at this; exact this
  have sl := blk_in AX.out
  have b1 : AW.cell? ⟨w.heap.size, 3, none⟩ = some (.slice x3 m.js.length p3) := by simp [World.cell?, AX.out]
  go_enter Tryz.func24, Tryz.ntmps24
  go_upto_region 2 with fail
  rw [← eW]
  clear eW mm
  go_wp2_with fail
  clear sl b1
  go_loopw [12] (fun i wr => ∃ k : Nat, k ≤ m.js.length ∧ i = .int .i64 k ∧ Below w.heap.size w wr ∧ wr.heap[w.heap.size]? = some (.cells #[.string m.nm, .slice x1 m.cs.length p1, .slice x2 m.fs.length p2, .slice x3 m.js.length p3] 26 (0, 0)) ∧ wr.heap[w.heap.size + 1]? = some (.cells #[.int .i64 0, .int .i64 0, .int .i64 0] 72 (0, 0)) ∧ (∃ n, n ≤ k ∧ SetS wr (w.heap.size + 1 + 1) n (setJ m.js k)) ∧ ∀ j, j < k → jbAt m j = 0) (fun i _ => m.js.length - (intOf i).toNat)
  case atStart => exact ⟨0, Nat.zero_le _, rfl, AB.out, AX.out, AZ.out, ⟨0, Nat.le_refl _, AM.out⟩, fun j hj => absurd hj (Nat.not_lt_zero _)⟩
  case round =>
    obtain ⟨k, hk, rfl, hbw, hx, hz, ⟨n, hn, hm⟩, hall⟩ := hrel
    have HW : Hid (Below w.heap.size w wr) := hbw
    have HX : Hid (wr.heap[w.heap.size]? = some (.cells #[.string m.nm, .slice x1 m.cs.length p1, .slice x2 m.fs.length p2, .slice x3 m.js.length p3] 26 (0, 0))) := hx
    have HZ : Hid (wr.heap[w.heap.size + 1]? = some (.cells #[.int .i64 0, .int .i64 0, .int .i64 0] 72 (0, 0))) := hz
    have HM : Hid (SetS wr (w.heap.size + 1 + 1) n (setJ m.js k)) := hm
    have HN : Hid (n ≤ k) := hn
    have AL : Hid (∀ j, j < k → jbAt m j = 0) := hall
    clear hz hx hm hn hall AB AX AZ AM
    by_cases hlt : k < m.js.length
    · obtain ⟨a, rfl⟩ := HA.out.some (by omega)
      obtain ⟨s, sv, se, _, ⟨sx, sc, sy, sd, rfl, sq⟩, sk0⟩ := HA.out.el k hlt
      have QF : Hid (JbQ S w s sx sy) := sq
      have sk := sk0.fr (FV.out wr hbw) (by rw [add_block]; assumption)
      clear sk0
      have e0 := sk.c0
      have e1 := sk.cp 0 _ rfl
      have e2 := sk.cp 1 _ rfl
      have e3 := sk.cp 2 _ rfl
      have e4 := sk.cp 3 _ rfl
      have e5 := sk.cp 4 _ rfl
      have e6 := sk.cp 5 _ rfl
      have ES : Hid (m.js[k]? = some s) := se
      have OK : Hid (JbOk s) := HO.out s (List.mem_of_getElem? se)
      have LT : Hid (k < m.js.length) := hlt
      have kl : (k : Int) < m.js.length := by omega
      clear hbw se hlt sk sq
      have za := block_lt_of_cell e0
      have zm := HM.out.lt
      have KY := keyS s.nm (sh_max OK.out.1)
      have GA : Hid (∀ X : Obj, Below wr.heap.size wr (wr.alloc X)) := fun X => (Below.refl _ _).alloc (Nat.le_refl _) _
      have CA : Hid (jbAt m k = if ((setJ m.js k).any (fun x => decide (x = s.nm)) || !nameB s.nm) = true then 6 else if (trB m s && rnB m s) = true then 0 else 204) := by
        show _ = _
        rw [← setJ_any]
        unfold jbAt
        rw [ES.out]
      have N1 : Hid (∀ W, Calls Tryz.prog 49 #[.string s.nm] W fun e w' => e = .returned (.bool (nameB s.nm)) ∧ w' = W) := fun W => IsName_of s.nm W (sh_max OK.out.1)
      have k0 : ∀ X : Obj, (wr.alloc X).cell? ⟨w.heap.size, 1, none⟩ = some (.slice x1 m.cs.length p1) := fun X => ((GA.out X).cell (p := ⟨w.heap.size, 1, none⟩) (blk_in HX.out)).trans (by simp [World.cell?, HX.out])
      obtain ⟨AR, eR⟩ : ∃ AR, AR = wr.alloc (.cells #[.string s.nm, .int .i64 s.iv, .int .i64 s.sg, .int .i64 s.pr, .slice sx s.cs.length sc, .slice sy s.bs.length sd, .int .i64 s.bd] 51 (0, 0)) := ⟨_, rfl⟩
      have RB : Hid (Below wr.heap.size wr AR) := by rw [eR]; exact GA.out _
      have RX : Hid (AR.heap[wr.heap.size]? = some (.cells #[.string s.nm, .int .i64 s.iv, .int .i64 s.sg, .int .i64 s.pr, .slice sx s.cs.length sc, .slice sy s.bs.length sd, .int .i64 s.bd] 51 (0, 0))) := by rw [eR]; exact heap_alloc_last _ _
      have RZ : Hid (AR.heap[w.heap.size + 1]? = some (.cells #[.int .i64 0, .int .i64 0, .int .i64 0] 72 (0, 0))) := (RB.out.block _ (blk_in HZ.out)).trans HZ.out
      have RM : Hid (SetS AR (w.heap.size + 1 + 1) n (setJ m.js k)) := HM.out.below RB.out
      have RW : Hid (Below w.heap.size w AR) := HW.out.trans (RB.out.mono HW.out.size)
      go_upto_region 5 with fail
      rw [← eR]
      clear eR e0 e1 e2 e3 e4 e5 e6 za GA k0
      have f0 : AR.cell? ⟨wr.heap.size, 0, none⟩ = some (.string s.nm) := by simp [World.cell?, RX.out]
      have G2 : Hid (∀ Y : Obj, Below AR.heap.size AR (AR.alloc Y)) := fun Y => (Below.refl _ _).alloc (Nat.le_refl _) _
      have fy : ∀ Y : Obj, (AR.alloc Y).cell? ⟨wr.heap.size, 0, none⟩ = some (.string s.nm) := fun Y => ((G2.out Y).cell (p := ⟨wr.heap.size, 0, none⟩) (blk_in RX.out)).trans f0
      have ZZ : Hid (∀ Y : Obj, (AR.alloc Y).heap[w.heap.size + 1]? = some (.cells #[.int .i64 0, .int .i64 0, .int .i64 0] 72 (0, 0))) := fun Y => ((G2.out Y).block _ (blk_in RZ.out)).trans RZ.out
      cases q : (setJ m.js k).any (fun x => decide (x = s.nm))
      case true =>
        have QQ : Hid _ := q
        rw [q, Bool.true_or, if_pos rfl] at CA
        clear q
        have ev : VV = .agg #[.int .i64 k, .int .i64 0, .int .i64 6] := by rw [← HV.out]; exact jb_some LT.out AL.out CA.out (by decide)
        have AN : Hid _ := ev
        clear ev zm
        go_wp2_with (first | (at_lookup; obtain ⟨D, h1, h2⟩ := RM.out; refine wpList_lookup_own_unit _ rfl _ _ 104 rfl 9 105 (Maps.string_keyed Tryz.underlying9) Tryz.underlying104 (zeroU _) (w.heap.size + 1 + 1) n D rfl h1 _ _ rfl KY ?_; rw [h2 s.nm, QQ.out]; clear h1 h2 D) | (refine wpList_store_row rfl 72 _ _ rfl (w.heap.size + 1) _ rfl rfl _ _ (ZZ.out _) fw_info rfl (by kernel_rfl) ?_))
        refine bodyPost_ret (v := .agg #[.int .i64 k, .int .i64 0, .int .i64 6]) (results_cell_row Tryz.results24 _ _ (w.heap.size + 1) _ _ (0, 0) _ (by first | rfl | simp [Act.put]) (setRow_heap _ _ _ _ _ _ (ZZ.out _)) Tryz.underlying72 rfl fw_info) rfl ?_
        exact ⟨by rw [AN.out], row_below (RW.out.trans ((G2.out _).mono RW.out.size)) (by omega) _⟩
      case false =>
        have QQ : Hid _ := q
        rw [q, Bool.false_or] at CA
        clear q
        generalize nameB s.nm = r0 at *
        go_wp2_with (at_lookup; obtain ⟨D, h1, h2⟩ := RM.out; refine wpList_lookup_own_unit _ rfl _ _ 104 rfl 9 105 (Maps.string_keyed Tryz.underlying9) Tryz.underlying104 (zeroU _) (w.heap.size + 1 + 1) n D rfl h1 _ _ rfl KY ?_; rw [h2 s.nm, QQ.out]; clear h1 h2 D)
        refine (N1.out _).mono ?_
        rintro e wN ⟨rfl, hN⟩
        have NB : Hid (Below AR.heap.size AR wN) := by rw [hN]; exact G2.out _
        have NX : Hid (wN.heap[wr.heap.size]? = some (.cells #[.string s.nm, .int .i64 s.iv, .int .i64 s.sg, .int .i64 s.pr, .slice sx s.cs.length sc, .slice sy s.bs.length sd, .int .i64 s.bd] 51 (0, 0))) := (NB.out.block _ (blk_in RX.out)).trans RX.out
        have NY : Hid (wN.heap[w.heap.size]? = some (.cells #[.string m.nm, .slice x1 m.cs.length p1, .slice x2 m.fs.length p2, .slice (some a) m.js.length p3] 26 (0, 0))) := (NB.out.block _ (blk_in ((RB.out.block _ (blk_in HX.out)).trans HX.out))).trans ((RB.out.block _ (blk_in HX.out)).trans HX.out)
        have NZ : Hid (wN.heap[w.heap.size + 1]? = some (.cells #[.int .i64 0, .int .i64 0, .int .i64 0] 72 (0, 0))) := (NB.out.block _ (blk_in RZ.out)).trans RZ.out
        have NM : Hid (SetS wN (w.heap.size + 1 + 1) n (setJ m.js k)) := RM.out.below NB.out
        have NW : Hid (Below w.heap.size w wN) := RW.out.trans (NB.out.mono RW.out.size)
        clear hN f0 fy ZZ G2 RM RZ RX
        have f0 : wN.cell? ⟨wr.heap.size, 0, none⟩ = some (.string s.nm) := by simp [World.cell?, NX.out]
        cases r0
        · rw [if_pos (show (!false) = true from rfl)] at CA
          have ev : VV = .agg #[.int .i64 k, .int .i64 0, .int .i64 6] := by rw [← HV.out]; exact jb_some LT.out AL.out (CA.out) (by decide)
          have AN : Hid _ := ev
          have Z5 : Hid (wN.heap[w.heap.size + 1]? = some (.cells #[.int .i64 0, .int .i64 0, .int .i64 0] 72 (0, 0))) := NZ.out
          have B5 : Hid (Below w.heap.size w wN) := NW.out
          clear ev zm f0
          go_wp2_with (refine wpList_store_row rfl 72 _ _ rfl (w.heap.size + 1) _ rfl rfl _ _ Z5.out fw_info rfl (by kernel_rfl) ?_)
          refine bodyPost_ret (v := .agg #[.int .i64 k, .int .i64 0, .int .i64 6]) (results_cell_row Tryz.results24 _ _ (w.heap.size + 1) _ _ (0, 0) _ (by first | rfl | simp [Act.put]) (setRow_heap _ _ _ _ _ _ Z5.out) Tryz.underlying72 rfl fw_info) rfl ?_
          exact ⟨by rw [AN.out], row_below B5.out (by omega) _⟩
        rw [if_neg (show ¬ (!true) = true by simp)] at CA
        go_wp2_with (at_mapUpdate; obtain ⟨D, h1, h2⟩ := NM.out; refine wpList_mapUpdate_own _ rfl _ _ _ 104 rfl 9 105 (Maps.string_keyed Tryz.underlying9) Tryz.underlying104 unitElem (w.heap.size + 1 + 1) n D rfl h1 (by have := HN.out; have := LT.out; have := HL.out; simp [maxLen]; omega) _ _ (.string s.nm.data.toList) rfl rfl KY (.agg []) [] unitElem_mk ?_; (intro w7 t1 t2; have T1 : Hid (SetS w7 (w.heap.size + 1 + 1) (n + 1) (setJ m.js k ++ [s.nm])) := SetS.put h1 h2 s.nm t1; have T2 : Hid _ := t2; clear t1 t2 h1 h2 D f0; have zr : w.heap.size + 1 + 1 < wr.heap.size := zm; have y1 : w7.heap[wr.heap.size]? = some (.cells #[.string s.nm, .int .i64 s.iv, .int .i64 s.sg, .int .i64 s.pr, .slice sx s.cs.length sc, .slice sy s.bs.length sd, .int .i64 s.bd] 51 (0, 0)) := (T2.out.block _ (blk_in NX.out) (by simp <;> omega)).trans NX.out; have y2 : w7.heap[w.heap.size]? = some (.cells #[.string m.nm, .slice x1 m.cs.length p1, .slice x2 m.fs.length p2, .slice (some a) m.js.length p3] 26 (0, 0)) := (T2.out.block _ (blk_in NY.out) (by simp <;> omega)).trans NY.out; have y3 : w7.heap[w.heap.size + 1]? = some (.cells #[.int .i64 0, .int .i64 0, .int .i64 0] 72 (0, 0)) := (T2.out.block _ (blk_in NZ.out) (by simp <;> omega)).trans NZ.out; have CF : Hid (∀ V, Below w7.heap.size w7 V → V.heap[wr.heap.size]? = some (.cells #[.string s.nm, .int .i64 s.iv, .int .i64 s.sg, .int .i64 s.pr, .slice sx s.cs.length sc, .slice sy s.bs.length sd, .int .i64 s.bd] 51 (0, 0)) ∧ V.heap[w.heap.size]? = some (.cells #[.string m.nm, .slice x1 m.cs.length p1, .slice x2 m.fs.length p2, .slice (some a) m.js.length p3] 26 (0, 0)) ∧ V.heap[w.heap.size + 1]? = some (.cells #[.int .i64 0, .int .i64 0, .int .i64 0] 72 (0, 0))) := fun V h => ⟨(h.block _ (blk_in y1)).trans y1, (h.block _ (blk_in y2)).trans y2, (h.block _ (blk_in y3)).trans y3⟩; have W7 : Hid (Below w.heap.size w w7) := NW.out.grown T2.out (Nat.le_trans HW.out.size (Nat.le_trans RB.out.size NB.out.size)) (fun g e => by cases e <;> omega); clear y1 y2 y3 zr; obtain ⟨y1, y2, y3⟩ := CF.out w7 (Below.refl _ _); have f0 : w7.cell? ⟨wr.heap.size, 0, none⟩ = some (.string s.nm) := (by simp [World.cell?, y1]); have f1 : w7.cell? ⟨wr.heap.size, 1, none⟩ = some (.int .i64 s.iv) := (by simp [World.cell?, y1]); have f2 : w7.cell? ⟨wr.heap.size, 2, none⟩ = some (.int .i64 s.sg) := (by simp [World.cell?, y1]); have f3 : w7.cell? ⟨wr.heap.size, 3, none⟩ = some (.int .i64 s.pr) := (by simp [World.cell?, y1]); have f4 : w7.cell? ⟨wr.heap.size, 4, none⟩ = some (.slice sx s.cs.length sc) := (by simp [World.cell?, y1]); have f5 : w7.cell? ⟨wr.heap.size, 5, none⟩ = some (.slice sy s.bs.length sd) := (by simp [World.cell?, y1]); have f6 : w7.cell? ⟨wr.heap.size, 6, none⟩ = some (.int .i64 s.bd) := (by simp [World.cell?, y1]); have m0 : w7.cell? ⟨w.heap.size, 0, none⟩ = some (.string m.nm) := (by simp [World.cell?, y2]); have m1 : w7.cell? ⟨w.heap.size, 1, none⟩ = some (.slice x1 m.cs.length p1) := (by simp [World.cell?, y2]); have m2 : w7.cell? ⟨w.heap.size, 2, none⟩ = some (.slice x2 m.fs.length p2) := (by simp [World.cell?, y2]); have m3 : w7.cell? ⟨w.heap.size, 3, none⟩ = some (.slice (some a) m.js.length p3) := (by simp [World.cell?, y2])))
        have QV : Hid (∀ V, Below w.heap.size w V → JbQ S V s sx sy) := fun V h => QF.out.fr (FV.out V h)
        have W8 : Hid (∀ V, Below w7.heap.size w7 V → Below w.heap.size w V) := fun V h => W7.out.trans (h.mono W7.out.size)
        have D1 : Hid (Calls Tryz.prog 55 #[JbV s sx sy sc sd, .slice x1 m.cs.length p1] w7 fun e w' => e = .returned (.bool (trB m s)) ∧ Below w7.heap.size w7 w') := C1.out _ W7.out s sx sy sc sd
        have D2 : Hid (∀ V, Below w7.heap.size w7 V → Calls Tryz.prog 56 #[JbV s sx sy sc sd, ImB m x1 x2 (some a) p1 p2 p3] V fun e w' => e = .returned (.bool (rnB m s)) ∧ Below V.heap.size V w') := fun V h => C2.out V (W8.out V h) s sx sy sc sd (QV.out V (W8.out V h))
        clear C1 C2 QV
        generalize trB m s = r1 at *
        generalize rnB m s = r2 at *
        go_wp2_with fail
        refine D1.out.mono ?_
        rintro e v1 ⟨rfl, hb1⟩
        have V1 : Hid (Below w7.heap.size w7 v1) := hb1
        clear hb1 f0 f1 f2 f3 f4 f5 f6 m0 m1 m2 m3 y1 y2 y3
        obtain ⟨y1, y2, y3⟩ := CF.out v1 V1.out
        have f0 : v1.cell? ⟨wr.heap.size, 0, none⟩ = some (.string s.nm) := by simp [World.cell?, y1]
        have f1 : v1.cell? ⟨wr.heap.size, 1, none⟩ = some (.int .i64 s.iv) := by simp [World.cell?, y1]
        have f2 : v1.cell? ⟨wr.heap.size, 2, none⟩ = some (.int .i64 s.sg) := by simp [World.cell?, y1]
        have f3 : v1.cell? ⟨wr.heap.size, 3, none⟩ = some (.int .i64 s.pr) := by simp [World.cell?, y1]
        have f4 : v1.cell? ⟨wr.heap.size, 4, none⟩ = some (.slice sx s.cs.length sc) := by simp [World.cell?, y1]
        have f5 : v1.cell? ⟨wr.heap.size, 5, none⟩ = some (.slice sy s.bs.length sd) := by simp [World.cell?, y1]
        have f6 : v1.cell? ⟨wr.heap.size, 6, none⟩ = some (.int .i64 s.bd) := by simp [World.cell?, y1]
        have m0 : v1.cell? ⟨w.heap.size, 0, none⟩ = some (.string m.nm) := by simp [World.cell?, y2]
        have m1 : v1.cell? ⟨w.heap.size, 1, none⟩ = some (.slice x1 m.cs.length p1) := by simp [World.cell?, y2]
        have m2 : v1.cell? ⟨w.heap.size, 2, none⟩ = some (.slice x2 m.fs.length p2) := by simp [World.cell?, y2]
        have m3 : v1.cell? ⟨w.heap.size, 3, none⟩ = some (.slice (some a) m.js.length p3) := by simp [World.cell?, y2]
        cases r1
        · rw [Bool.false_and, if_neg (show ¬ false = true by simp)] at CA
          have ev : VV = .agg #[.int .i64 k, .int .i64 0, .int .i64 204] := by rw [← HV.out]; exact jb_some LT.out AL.out (CA.out) (by decide)
          have AN : Hid _ := ev
          have Z5 : Hid (v1.heap[w.heap.size + 1]? = some (.cells #[.int .i64 0, .int .i64 0, .int .i64 0] 72 (0, 0))) := (CF.out v1 V1.out).2.2
          have B5 : Hid (Below w.heap.size w v1) := W8.out v1 V1.out
          clear ev f0 f1 f2 f3 f4 f5 f6 m0 m1 m2 m3 y1 y2 y3
          go_wp2_with (refine wpList_store_row rfl 72 _ _ rfl (w.heap.size + 1) _ rfl rfl _ _ Z5.out fw_info rfl (by kernel_rfl) ?_)
          refine bodyPost_ret (v := .agg #[.int .i64 k, .int .i64 0, .int .i64 204]) (results_cell_row Tryz.results24 _ _ (w.heap.size + 1) _ _ (0, 0) _ (by first | rfl | simp [Act.put]) (setRow_heap _ _ _ _ _ _ Z5.out) Tryz.underlying72 rfl fw_info) rfl ?_
          exact ⟨by rw [AN.out], row_below B5.out (by omega) _⟩
        rw [Bool.true_and] at CA
        go_wp2_with fail
        refine (D2.out _ V1.out).mono ?_
        rintro e v2 ⟨rfl, hb2⟩
        have V2 : Hid (Below w7.heap.size w7 v2) := V1.out.trans (hb2.mono V1.out.size)
        clear hb2 f0 f1 f2 f3 f4 f5 f6 m0 m1 m2 m3 y1 y2 y3
        cases r2
        · rw [if_neg (show ¬ false = true by simp)] at CA
          have ev : VV = .agg #[.int .i64 k, .int .i64 0, .int .i64 204] := by rw [← HV.out]; exact jb_some LT.out AL.out (CA.out) (by decide)
          have AN : Hid _ := ev
          have Z5 : Hid (v2.heap[w.heap.size + 1]? = some (.cells #[.int .i64 0, .int .i64 0, .int .i64 0] 72 (0, 0))) := (CF.out v2 V2.out).2.2
          have B5 : Hid (Below w.heap.size w v2) := W8.out v2 V2.out
          clear ev V1
          go_wp2_with (refine wpList_store_row rfl 72 _ _ rfl (w.heap.size + 1) _ rfl rfl _ _ Z5.out fw_info rfl (by kernel_rfl) ?_)
          refine bodyPost_ret (v := .agg #[.int .i64 k, .int .i64 0, .int .i64 204]) (results_cell_row Tryz.results24 _ _ (w.heap.size + 1) _ _ (0, 0) _ (by first | rfl | simp [Act.put]) (setRow_heap _ _ _ _ _ _ Z5.out) Tryz.underlying72 rfl fw_info) rfl ?_
          exact ⟨by rw [AN.out], row_below B5.out (by omega) _⟩
        rw [if_pos rfl] at CA
        have ew : wrap64 ((k : Int) + 1) = (k : Int) + 1 := by have := HL.out; have := LT.out; unfold wrap64; omega
        go_wp2
        try rw [ew]
        refine ⟨⟨k + 1, Nat.succ_le_of_lt LT.out, rfl, W8.out v2 V2.out, (CF.out v2 V2.out).2.1, (CF.out v2 V2.out).2.2, ⟨n + 1, Nat.succ_le_succ HN.out, ?_⟩, fun j hj => ?_⟩, msr LT.out⟩
        · rw [setJ_succ _ _ _ ES.out]; exact T1.out.below V2.out
        · rcases Nat.lt_succ_iff_lt_or_eq.1 hj with h | rfl
          · exact AL.out j h
          · exact CA.out
    · have kl : ¬ (k : Int) < m.js.length := by omega
      have ek : k = m.js.length := by omega
      subst ek
      have ev : VV = .agg #[.int .i64 0, .int .i64 0, .int .i64 0] := by rw [← HV.out]; exact jb_none AL.out
      have AN : Hid _ := ev
      clear ev hbw hlt
      go_wp2_with (refine wpList_store_row rfl 72 _ _ rfl (w.heap.size + 1) _ rfl rfl _ _ HZ.out fw_info rfl (by kernel_rfl) ?_)
      refine bodyPost_ret (v := .agg #[.int .i64 0, .int .i64 0, .int .i64 0]) (results_cell_row Tryz.results24 _ _ (w.heap.size + 1) _ _ (0, 0) _ (by first | rfl | simp [Act.put]) (setRow_heap _ _ _ _ _ _ HZ.out) Tryz.underlying72 rfl fw_info) rfl ?_
      exact ⟨by rw [AN.out], row_below HW.out (by omega) _⟩
end Go.Proofs.YtdcjngakmkgbmaaGreat
