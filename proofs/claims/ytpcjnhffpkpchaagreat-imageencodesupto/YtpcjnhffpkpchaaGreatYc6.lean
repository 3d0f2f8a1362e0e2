/- image: the head of an image; Check; no statement of the seat is proved here. -/
import Derived.Test.YtpcjnhffpkpchaaGreatYa9
import Derived.Test.YtpcjnhffpkpchaaGreatYa8
import Derived.Test.YtpcjnhffpkpchaaGreatCkMY
import Derived.Handy
namespace Go.Proofs.YtpcjnhffpkpchaaGreat
set_option linter.unusedVariables false
open Go.RowKit
/-- What a look at all tasks answers. -/
def jbV (m : ImR) : Value := match fstN (fun i => decide (jbAt m i = 0)) m.js.length with
  | some i => .agg #[.int .i64 i, .int .i64 0, .int .i64 (jbAt m i)]
  | none => .agg #[.int .i64 0, .int .i64 0, .int .i64 0]
theorem jb_some {m : ImR} {k : Nat} {e : Int} (hk : k < m.js.length) (h : ∀ j, j < k → jbAt m j = 0) (hf : jbAt m k = e) (he : e ≠ 0) : jbV m = .agg #[.int .i64 k, .int .i64 0, .int .i64 e] := by
  unfold jbV
  rw [fstN_some hk (fun j hj => by simp [h j hj]) (by rw [hf]; simp [he])]
  show Value.agg #[.int .i64 k, .int .i64 0, .int .i64 (jbAt m k)] = _
  rw [hf]
theorem jb_none {m : ImR} (h : ∀ j, j < m.js.length → jbAt m j = 0) : jbV m = .agg #[.int .i64 0, .int .i64 0, .int .i64 0] := by
  unfold jbV
  rw [fstN_none (fun j hj => by simp [h j hj])]
def setJ (l : List JbR) (k : Nat) : List ByteArray := (l.take k).map (·.nm)
theorem setJ_succ (l : List JbR) (k : Nat) (c : JbR) (h : l[k]? = some c) : setJ l (k + 1) = setJ l k ++ [c.nm] := by
  unfold setJ
  rw [List.take_add_one, h]
  simp
theorem setJ_any (l : List JbR) (k : Nat) (s : ByteArray) : (l.take k).any (fun x => decide (x.nm = s)) = (setJ l k).any (fun x => decide (x = s)) := by
  unfold setJ
  rw [List.any_map]
  rfl
set_option maxRecDepth 20000 in
set_option maxHeartbeats 8000000 in
theorem jobFlaw_of (m : ImR) (x1 x2 x3 : Option Addr) (p1 p2 p3 : Nat) (w : World) {S : Nat → Prop} (hS : ∀ b, S b → b < w.heap.size) (h1 : RwF 11 (Is ceC) S w x1 m.cs) (h2 : RwF 8 (FlP S w) S w x2 m.fs) (h3 : RwF 7 (JbP S w) S w x3 m.js) (ho : ∀ j ∈ m.js, JbOk j)
    (hn : m.cs.length ≤ 1048576) (hm : m.fs.length ≤ 1048576) (hl : m.js.length ≤ 1048576) (hc : ∀ f ∈ m.fs, 0 ≤ f.ce ∧ f.ce ≤ 4096) :
    Calls Tryz.prog 26 #[.agg #[.string m.nm, .slice x1 m.cs.length p1, .slice x2 m.fs.length p2, .slice x3 m.js.length p3]] w fun e w' => e = .returned (jbV m) ∧ Below w.heap.size w w' := by
  have HA : Hid (RwF 7 (JbP S w) S w x3 m.js) := h3
  have HS : Hid (∀ b, S b → b < w.heap.size) := hS
  have HO : Hid (∀ j ∈ m.js, JbOk j) := ho
  have HL : Hid (m.js.length ≤ 1048576) := hl
  have SV : Hid (∀ V, Below w.heap.size w V → ∀ b, S b → b < V.heap.size) := fun V h b hb => Nat.lt_of_lt_of_le (hS b hb) h.size
  have FV : Hid (∀ V, Below w.heap.size w V → FrS S w V) := fun V h q hq => h.cell (hS _ hq)
  have C1 : Hid (∀ V, Below w.heap.size w V → ∀ (j : JbR) (y1 y2 : Option Addr) (c1 c2 : Nat), Calls Tryz.prog 57 #[JbV j y1 y2 c1 c2, .slice x1 m.cs.length p1] V fun e w' => e = .returned (.bool (trB m j)) ∧ Below V.heap.size V w') := fun V h j y1 y2 c1 c2 => mayTrigger_of m j y1 y2 c1 c2 x1 p1 V (SV.out V h) (h1.fr (FV.out V h)) hn
  have C2 : Hid (∀ V, Below w.heap.size w V → ∀ (j : JbR) (y1 y2 : Option Addr) (c1 c2 : Nat), JbQ S V j y1 y2 → Calls Tryz.prog 58 #[JbV j y1 y2 c1 c2, ImB m x1 x2 x3 p1 p2 p3] V fun e w' => e = .returned (.bool (rnB m j)) ∧ Below V.heap.size V w') := fun V h j y1 y2 c1 c2 q => mayRun_of m j y1 y2 c1 c2 x1 x2 x3 p1 p2 p3 V (SV.out V h) q (h2.frK keptF (FV.out V h)) hn hm hc
  clear hS h1 h2 h3 ho hn hm hl hc
  generalize hv : jbV m = VV
  have HV : Hid (jbV m = VV) := hv
  clear hv
  have mm := mk_map
  obtain ⟨AW, eW⟩ : ∃ AW, AW = ((w.alloc (.cells #[.string m.nm, .slice x1 m.cs.length p1, .slice x2 m.fs.length p2, .slice x3 m.js.length p3] 26 (0, 0))).alloc (.cells #[.int .i64 0, .int .i64 0, .int .i64 0] 69 (0, 0))).alloc (.map #[] 0) := ⟨_, rfl⟩
  have AB : Hid (Below w.heap.size w AW) := by rw [eW]; exact (((Below.refl _ _).alloc (Nat.le_refl _) _).alloc (by simp) _).alloc (by simp; omega) _
  have AZ : Hid (AW.heap[w.heap.size + 1]? = some (.cells #[.int .i64 0, .int .i64 0, .int .i64 0] 69 (0, 0))) := by rw [eW]; exact (Below.heap_alloc _ _ _ (by simp)).trans (tw_at w _ _).2
  have AX : Hid (AW.heap[w.heap.size]? = some (.cells #[.string m.nm, .slice x1 m.cs.length p1, .slice x2 m.fs.length p2, .slice x3 m.js.length p3] 26 (0, 0))) := by rw [eW]; exact (Below.heap_alloc _ _ _ (by simp; omega)).trans (tw_at w _ _).1
  have AM : Hid (SetS AW (w.heap.size + 1 + 1) 0 []) := by rw [eW]; have := SetS.made ((w.alloc (.cells #[.string m.nm, .slice x1 m.cs.length p1, .slice x2 m.fs.length p2, .slice x3 m.js.length p3] 26 (0, 0))).alloc (.cells #[.int .i64 0, .int .i64 0, .int .i64 0] 69 (0, 0))); simp only [World.size_alloc] at this; exact this
  have sl := blk_in AX.out
  have b1 : AW.cell? ⟨w.heap.size, 3, none⟩ = some (.slice x3 m.js.length p3) := by simp [World.cell?, AX.out]
  go_enter Tryz.func26, Tryz.ntmps26
  go_upto_region 2 with fail
  rw [← eW]
  clear eW mm
  go_wp2_with fail
  clear sl b1
  go_loopw [12] (fun i wr => ∃ k : Nat, k ≤ m.js.length ∧ i = .int .i64 k ∧ Below w.heap.size w wr ∧ wr.heap[w.heap.size]? = some (.cells #[.string m.nm, .slice x1 m.cs.length p1, .slice x2 m.fs.length p2, .slice x3 m.js.length p3] 26 (0, 0)) ∧ wr.heap[w.heap.size + 1]? = some (.cells #[.int .i64 0, .int .i64 0, .int .i64 0] 69 (0, 0)) ∧ (∃ n, n ≤ k ∧ SetS wr (w.heap.size + 1 + 1) n (setJ m.js k)) ∧ ∀ j, j < k → jbAt m j = 0) (fun i _ => m.js.length - (intOf i).toNat)
  case atStart => exact ⟨0, Nat.zero_le _, rfl, AB.out, AX.out, AZ.out, ⟨0, Nat.le_refl _, AM.out⟩, fun j hj => absurd hj (Nat.not_lt_zero _)⟩
  case round =>
    obtain ⟨k, hk, rfl, hbw, hx, hz, ⟨n, hn, hm⟩, hall⟩ := hrel
    have HW : Hid (Below w.heap.size w wr) := hbw
    have HX : Hid (wr.heap[w.heap.size]? = some (.cells #[.string m.nm, .slice x1 m.cs.length p1, .slice x2 m.fs.length p2, .slice x3 m.js.length p3] 26 (0, 0))) := hx
    have HZ : Hid (wr.heap[w.heap.size + 1]? = some (.cells #[.int .i64 0, .int .i64 0, .int .i64 0] 69 (0, 0))) := hz
    have HM : Hid (SetS wr (w.heap.size + 1 + 1) n (setJ m.js k)) := hm
    have HN : Hid (n ≤ k) := hn
    have AL : Hid (∀ j, j < k → jbAt m j = 0) := hall
    clear hz hx hm hn hall AB AX AZ AM
    by_cases hlt : k < m.js.length
    · obtain ⟨a, rfl⟩ := HA.out.some (by omega)
      obtain ⟨s, sv, se, _, ⟨sx, sc, sy, sd, rfl, sq⟩, sk0⟩ := HA.out.el k hlt
      have QF : Hid (JbQ S w s sx sy) := sq
      have sk := sk0.fr (FV.out wr hbw) (by rw [add_block]; assumption)
      clear sk0
      have e0 := sk.c0
      have e1 := sk.cp 0 _ rfl
      have e2 := sk.cp 1 _ rfl
      have e3 := sk.cp 2 _ rfl
      have e4 := sk.cp 3 _ rfl
      have e5 := sk.cp 4 _ rfl
      have e6 := sk.cp 5 _ rfl
      have ES : Hid (m.js[k]? = some s) := se
      have OK : Hid (JbOk s) := HO.out s (List.mem_of_getElem? se)
      have LT : Hid (k < m.js.length) := hlt
      have kl : (k : Int) < m.js.length := by omega
      clear hbw se hlt sk sq
      have za := block_lt_of_cell e0
      have zm := HM.out.lt
      have KY := keyS s.nm (sh_max OK.out.1)
      have GA : Hid (∀ X : Obj, Below wr.heap.size wr (wr.alloc X)) := fun X => (Below.refl _ _).alloc (Nat.le_refl _) _
      have CA : Hid (jbAt m k = if ((setJ m.js k).any (fun x => decide (x = s.nm)) || !nameB s.nm) = true then 6 else if (trB m s && rnB m s) = true then 0 else 204) := by
        show _ = _
        rw [← setJ_any]
        unfold jbAt
        rw [ES.out]
      have N1 : Hid (∀ W, Calls Tryz.prog 51 #[.string s.nm] W fun e w' => e = .returned (.bool (nameB s.nm)) ∧ w' = W) := fun W => IsName_of s.nm W (sh_max OK.out.1)
      have k0 : ∀ X : Obj, (wr.alloc X).cell? ⟨w.heap.size, 1, none⟩ = some (.slice x1 m.cs.length p1) := fun X => ((GA.out X).cell (p := ⟨w.heap.size, 1, none⟩) (blk_in HX.out)).trans (by simp [World.cell?, HX.out])
      obtain ⟨AR, eR⟩ : ∃ AR, AR = wr.alloc (.cells #[.string s.nm, .int .i64 s.iv, .int .i64 s.sg, .int .i64 s.pr, .slice sx s.cs.length sc, .slice sy s.bs.length sd, .int .i64 s.bd] 46 (0, 0)) := ⟨_, rfl⟩
      have RB : Hid (Below wr.heap.size wr AR) := by rw [eR]; exact GA.out _
      have RX : Hid (AR.heap[wr.heap.size]? = some (.cells #[.string s.nm, .int .i64 s.iv, .int .i64 s.sg, .int .i64 s.pr, .slice sx s.cs.length sc, .slice sy s.bs.length sd, .int .i64 s.bd] 46 (0, 0))) := by rw [eR]; exact heap_alloc_last _ _
      have RZ : Hid (AR.heap[w.heap.size + 1]? = some (.cells #[.int .i64 0, .int .i64 0, .int .i64 0] 69 (0, 0))) := (RB.out.block _ (blk_in HZ.out)).trans HZ.out
      have RM : Hid (SetS AR (w.heap.size + 1 + 1) n (setJ m.js k)) := HM.out.below RB.out
      have RW : Hid (Below w.heap.size w AR) := HW.out.trans (RB.out.mono HW.out.size)
      go_upto_region 5 with fail
      rw [← eR]
      clear eR e0 e1 e2 e3 e4 e5 e6 za GA k0
      have f0 : AR.cell? ⟨wr.heap.size, 0, none⟩ = some (.string s.nm) := by simp [World.cell?, RX.out]
      have G2 : Hid (∀ Y : Obj, Below AR.heap.size AR (AR.alloc Y)) := fun Y => (Below.refl _ _).alloc (Nat.le_refl _) _
      have fy : ∀ Y : Obj, (AR.alloc Y).cell? ⟨wr.heap.size, 0, none⟩ = some (.string s.nm) := fun Y => ((G2.out Y).cell (p := ⟨wr.heap.size, 0, none⟩) (blk_in RX.out)).trans f0
      have ZZ : Hid (∀ Y : Obj, (AR.alloc Y).heap[w.heap.size + 1]? = some (.cells #[.int .i64 0, .int .i64 0, .int .i64 0] 69 (0, 0))) := fun Y => ((G2.out Y).block _ (blk_in RZ.out)).trans RZ.out
      cases q : (setJ m.js k).any (fun x => decide (x = s.nm))
      case true =>
        have QQ : Hid _ := q
        rw [q, Bool.true_or, if_pos rfl] at CA
        clear q
        have ev : VV = .agg #[.int .i64 k, .int .i64 0, .int .i64 6] := by rw [← HV.out]; exact jb_some LT.out AL.out CA.out (by decide)
        have AN : Hid _ := ev
        clear ev zm
        go_wp2_with (first | (at_lookup; obtain ⟨D, h1, h2⟩ := RM.out; refine wpList_lookup_own_unit _ rfl _ _ 100 rfl 9 101 (Maps.string_keyed Tryz.underlying9) Tryz.underlying100 (zeroU _) (w.heap.size + 1 + 1) n D rfl h1 _ _ rfl KY ?_; rw [h2 s.nm, QQ.out]; clear h1 h2 D) | (refine wpList_store_row rfl 69 _ _ rfl (w.heap.size + 1) _ rfl rfl _ _ (ZZ.out _) fw_info rfl (by kernel_rfl) ?_))
        refine bodyPost_ret (v := .agg #[.int .i64 k, .int .i64 0, .int .i64 6]) (results_cell_row Tryz.results26 _ _ (w.heap.size + 1) _ _ (0, 0) _ (by first | rfl | simp [Act.put]) (setRow_heap _ _ _ _ _ _ (ZZ.out _)) Tryz.underlying69 rfl fw_info) rfl ?_
        exact ⟨by rw [AN.out], row_below (RW.out.trans ((G2.out _).mono RW.out.size)) (by omega) _⟩
      case false =>
        have QQ : Hid _ := q
        rw [q, Bool.false_or] at CA
        clear q
        generalize nameB s.nm = r0 at *
        go_wp2_with (at_lookup; obtain ⟨D, h1, h2⟩ := RM.out; refine wpList_lookup_own_unit _ rfl _ _ 100 rfl 9 101 (Maps.string_keyed Tryz.underlying9) Tryz.underlying100 (zeroU _) (w.heap.size + 1 + 1) n D rfl h1 _ _ rfl KY ?_; rw [h2 s.nm, QQ.out]; clear h1 h2 D)
        refine (N1.out _).mono ?_
        rintro e wN ⟨rfl, hN⟩
        have NB : Hid (Below AR.heap.size AR wN) := by rw [hN]; exact G2.out _
        have NX : Hid (wN.heap[wr.heap.size]? = some (.cells #[.string s.nm, .int .i64 s.iv, .int .i64 s.sg, .int .i64 s.pr, .slice sx s.cs.length sc, .slice sy s.bs.length sd, .int .i64 s.bd] 46 (0, 0))) := (NB.out.block _ (blk_in RX.out)).trans RX.out
        have NY : Hid (wN.heap[w.heap.size]? = some (.cells #[.string m.nm, .slice x1 m.cs.length p1, .slice x2 m.fs.length p2, .slice (some a) m.js.length p3] 26 (0, 0))) := (NB.out.block _ (blk_in ((RB.out.block _ (blk_in HX.out)).trans HX.out))).trans ((RB.out.block _ (blk_in HX.out)).trans HX.out)
        have NZ : Hid (wN.heap[w.heap.size + 1]? = some (.cells #[.int .i64 0, .int .i64 0, .int .i64 0] 69 (0, 0))) := (NB.out.block _ (blk_in RZ.out)).trans RZ.out
        have NM : Hid (SetS wN (w.heap.size + 1 + 1) n (setJ m.js k)) := RM.out.below NB.out
        have NW : Hid (Below w.heap.size w wN) := RW.out.trans (NB.out.mono RW.out.size)
        clear hN f0 fy ZZ G2 RM RZ RX
        have f0 : wN.cell? ⟨wr.heap.size, 0, none⟩ = some (.string s.nm) := by simp [World.cell?, NX.out]
        cases r0
        · rw [if_pos (show (!false) = true from rfl)] at CA
          have ev : VV = .agg #[.int .i64 k, .int .i64 0, .int .i64 6] := by rw [← HV.out]; exact jb_some LT.out AL.out (CA.out) (by decide)
          have AN : Hid _ := ev
          have Z5 : Hid (wN.heap[w.heap.size + 1]? = some (.cells #[.int .i64 0, .int .i64 0, .int .i64 0] 69 (0, 0))) := NZ.out
          have B5 : Hid (Below w.heap.size w wN) := NW.out
          clear ev zm f0
          go_wp2_with (refine wpList_store_row rfl 69 _ _ rfl (w.heap.size + 1) _ rfl rfl _ _ Z5.out fw_info rfl (by kernel_rfl) ?_)
          refine bodyPost_ret (v := .agg #[.int .i64 k, .int .i64 0, .int .i64 6]) (results_cell_row Tryz.results26 _ _ (w.heap.size + 1) _ _ (0, 0) _ (by first | rfl | simp [Act.put]) (setRow_heap _ _ _ _ _ _ Z5.out) Tryz.underlying69 rfl fw_info) rfl ?_
          exact ⟨by rw [AN.out], row_below B5.out (by omega) _⟩
        rw [if_neg (show ¬ (!true) = true by simp)] at CA
        go_wp2_with (at_mapUpdate; obtain ⟨D, h1, h2⟩ := NM.out; refine wpList_mapUpdate_own _ rfl _ _ _ 100 rfl 9 101 (Maps.string_keyed Tryz.underlying9) Tryz.underlying100 unitElem (w.heap.size + 1 + 1) n D rfl h1 (by have := HN.out; have := LT.out; have := HL.out; simp [maxLen]; omega) _ _ (.string s.nm.data.toList) rfl rfl KY (.agg []) [] unitElem_mk ?_; (intro w7 t1 t2; have T1 : Hid (SetS w7 (w.heap.size + 1 + 1) (n + 1) (setJ m.js k ++ [s.nm])) := SetS.put h1 h2 s.nm t1; have T2 : Hid _ := t2; clear t1 t2 h1 h2 D f0; have zr : w.heap.size + 1 + 1 < wr.heap.size := zm; have y1 : w7.heap[wr.heap.size]? = some (.cells #[.string s.nm, .int .i64 s.iv, .int .i64 s.sg, .int .i64 s.pr, .slice sx s.cs.length sc, .slice sy s.bs.length sd, .int .i64 s.bd] 46 (0, 0)) := (T2.out.block _ (blk_in NX.out) (by simp <;> omega)).trans NX.out; have y2 : w7.heap[w.heap.size]? = some (.cells #[.string m.nm, .slice x1 m.cs.length p1, .slice x2 m.fs.length p2, .slice (some a) m.js.length p3] 26 (0, 0)) := (T2.out.block _ (blk_in NY.out) (by simp <;> omega)).trans NY.out; have y3 : w7.heap[w.heap.size + 1]? = some (.cells #[.int .i64 0, .int .i64 0, .int .i64 0] 69 (0, 0)) := (T2.out.block _ (blk_in NZ.out) (by simp <;> omega)).trans NZ.out; have CF : Hid (∀ V, Below w7.heap.size w7 V → V.heap[wr.heap.size]? = some (.cells #[.string s.nm, .int .i64 s.iv, .int .i64 s.sg, .int .i64 s.pr, .slice sx s.cs.length sc, .slice sy s.bs.length sd, .int .i64 s.bd] 46 (0, 0)) ∧ V.heap[w.heap.size]? = some (.cells #[.string m.nm, .slice x1 m.cs.length p1, .slice x2 m.fs.length p2, .slice (some a) m.js.length p3] 26 (0, 0)) ∧ V.heap[w.heap.size + 1]? = some (.cells #[.int .i64 0, .int .i64 0, .int .i64 0] 69 (0, 0))) := fun V h => ⟨(h.block _ (blk_in y1)).trans y1, (h.block _ (blk_in y2)).trans y2, (h.block _ (blk_in y3)).trans y3⟩; have W7 : Hid (Below w.heap.size w w7) := NW.out.grown T2.out (Nat.le_trans HW.out.size (Nat.le_trans RB.out.size NB.out.size)) (fun g e => by cases e <;> omega); clear y1 y2 y3 zr; obtain ⟨y1, y2, y3⟩ := CF.out w7 (Below.refl _ _); have f0 : w7.cell? ⟨wr.heap.size, 0, none⟩ = some (.string s.nm) := (by simp [World.cell?, y1]); have f1 : w7.cell? ⟨wr.heap.size, 1, none⟩ = some (.int .i64 s.iv) := (by simp [World.cell?, y1]); have f2 : w7.cell? ⟨wr.heap.size, 2, none⟩ = some (.int .i64 s.sg) := (by simp [World.cell?, y1]); have f3 : w7.cell? ⟨wr.heap.size, 3, none⟩ = some (.int .i64 s.pr) := (by simp [World.cell?, y1]); have f4 : w7.cell? ⟨wr.heap.size, 4, none⟩ = some (.slice sx s.cs.length sc) := (by simp [World.cell?, y1]); have f5 : w7.cell? ⟨wr.heap.size, 5, none⟩ = some (.slice sy s.bs.length sd) := (by simp [World.cell?, y1]); have f6 : w7.cell? ⟨wr.heap.size, 6, none⟩ = some (.int .i64 s.bd) := (by simp [World.cell?, y1]); have m0 : w7.cell? ⟨w.heap.size, 0, none⟩ = some (.string m.nm) := (by simp [World.cell?, y2]); have m1 : w7.cell? ⟨w.heap.size, 1, none⟩ = some (.slice x1 m.cs.length p1) := (by simp [World.cell?, y2]); have m2 : w7.cell? ⟨w.heap.size, 2, none⟩ = some (.slice x2 m.fs.length p2) := (by simp [World.cell?, y2]); have m3 : w7.cell? ⟨w.heap.size, 3, none⟩ = some (.slice (some a) m.js.length p3) := (by simp [World.cell?, y2])))
        have QV : Hid (∀ V, Below w.heap.size w V → JbQ S V s sx sy) := fun V h => QF.out.fr (FV.out V h)
        have W8 : Hid (∀ V, Below w7.heap.size w7 V → Below w.heap.size w V) := fun V h => W7.out.trans (h.mono W7.out.size)
        have D1 : Hid (Calls Tryz.prog 57 #[JbV s sx sy sc sd, .slice x1 m.cs.length p1] w7 fun e w' => e = .returned (.bool (trB m s)) ∧ Below w7.heap.size w7 w') := C1.out _ W7.out s sx sy sc sd
        have D2 : Hid (∀ V, Below w7.heap.size w7 V → Calls Tryz.prog 58 #[JbV s sx sy sc sd, ImB m x1 x2 (some a) p1 p2 p3] V fun e w' => e = .returned (.bool (rnB m s)) ∧ Below V.heap.size V w') := fun V h => C2.out V (W8.out V h) s sx sy sc sd (QV.out V (W8.out V h))
        clear C1 C2 QV
        generalize trB m s = r1 at *
        generalize rnB m s = r2 at *
        go_wp2_with fail
        refine D1.out.mono ?_
        rintro e v1 ⟨rfl, hb1⟩
        have V1 : Hid (Below w7.heap.size w7 v1) := hb1
        clear hb1 f0 f1 f2 f3 f4 f5 f6 m0 m1 m2 m3 y1 y2 y3
        obtain ⟨y1, y2, y3⟩ := CF.out v1 V1.out
        have f0 : v1.cell? ⟨wr.heap.size, 0, none⟩ = some (.string s.nm) := by simp [World.cell?, y1]
        have f1 : v1.cell? ⟨wr.heap.size, 1, none⟩ = some (.int .i64 s.iv) := by simp [World.cell?, y1]
        have f2 : v1.cell? ⟨wr.heap.size, 2, none⟩ = some (.int .i64 s.sg) := by simp [World.cell?, y1]
        have f3 : v1.cell? ⟨wr.heap.size, 3, none⟩ = some (.int .i64 s.pr) := by simp [World.cell?, y1]
        have f4 : v1.cell? ⟨wr.heap.size, 4, none⟩ = some (.slice sx s.cs.length sc) := by simp [World.cell?, y1]
        have f5 : v1.cell? ⟨wr.heap.size, 5, none⟩ = some (.slice sy s.bs.length sd) := by simp [World.cell?, y1]
        have f6 : v1.cell? ⟨wr.heap.size, 6, none⟩ = some (.int .i64 s.bd) := by simp [World.cell?, y1]
        have m0 : v1.cell? ⟨w.heap.size, 0, none⟩ = some (.string m.nm) := by simp [World.cell?, y2]
        have m1 : v1.cell? ⟨w.heap.size, 1, none⟩ = some (.slice x1 m.cs.length p1) := by simp [World.cell?, y2]
        have m2 : v1.cell? ⟨w.heap.size, 2, none⟩ = some (.slice x2 m.fs.length p2) := by simp [World.cell?, y2]
        have m3 : v1.cell? ⟨w.heap.size, 3, none⟩ = some (.slice (some a) m.js.length p3) := by simp [World.cell?, y2]
        cases r1
        · rw [Bool.false_and, if_neg (show ¬ false = true by simp)] at CA
          have ev : VV = .agg #[.int .i64 k, .int .i64 0, .int .i64 204] := by rw [← HV.out]; exact jb_some LT.out AL.out (CA.out) (by decide)
          have AN : Hid _ := ev
          have Z5 : Hid (v1.heap[w.heap.size + 1]? = some (.cells #[.int .i64 0, .int .i64 0, .int .i64 0] 69 (0, 0))) := (CF.out v1 V1.out).2.2
          have B5 : Hid (Below w.heap.size w v1) := W8.out v1 V1.out
          clear ev f0 f1 f2 f3 f4 f5 f6 m0 m1 m2 m3 y1 y2 y3
          go_wp2_with (refine wpList_store_row rfl 69 _ _ rfl (w.heap.size + 1) _ rfl rfl _ _ Z5.out fw_info rfl (by kernel_rfl) ?_)
          refine bodyPost_ret (v := .agg #[.int .i64 k, .int .i64 0, .int .i64 204]) (results_cell_row Tryz.results26 _ _ (w.heap.size + 1) _ _ (0, 0) _ (by first | rfl | simp [Act.put]) (setRow_heap _ _ _ _ _ _ Z5.out) Tryz.underlying69 rfl fw_info) rfl ?_
          exact ⟨by rw [AN.out], row_below B5.out (by omega) _⟩
        rw [Bool.true_and] at CA
        go_wp2_with fail
        refine (D2.out _ V1.out).mono ?_
        rintro e v2 ⟨rfl, hb2⟩
        have V2 : Hid (Below w7.heap.size w7 v2) := V1.out.trans (hb2.mono V1.out.size)
        clear hb2 f0 f1 f2 f3 f4 f5 f6 m0 m1 m2 m3 y1 y2 y3
        cases r2
        · rw [if_neg (show ¬ false = true by simp)] at CA
          have ev : VV = .agg #[.int .i64 k, .int .i64 0, .int .i64 204] := by rw [← HV.out]; exact jb_some LT.out AL.out (CA.out) (by decide)
          have AN : Hid _ := ev
          have Z5 : Hid (v2.heap[w.heap.size + 1]? = some (.cells #[.int .i64 0, .int .i64 0, .int .i64 0] 69 (0, 0))) := (CF.out v2 V2.out).2.2
          have B5 : Hid (Below w.heap.size w v2) := W8.out v2 V2.out
          clear ev V1
          go_wp2_with (refine wpList_store_row rfl 69 _ _ rfl (w.heap.size + 1) _ rfl rfl _ _ Z5.out fw_info rfl (by kernel_rfl) ?_)
          refine bodyPost_ret (v := .agg #[.int .i64 k, .int .i64 0, .int .i64 204]) (results_cell_row Tryz.results26 _ _ (w.heap.size + 1) _ _ (0, 0) _ (by first | rfl | simp [Act.put]) (setRow_heap _ _ _ _ _ _ Z5.out) Tryz.underlying69 rfl fw_info) rfl ?_
          exact ⟨by rw [AN.out], row_below B5.out (by omega) _⟩
        rw [if_pos rfl] at CA
        have ew : wrap64 ((k : Int) + 1) = (k : Int) + 1 := by have := HL.out; have := LT.out; unfold wrap64; omega
        go_wp2
        try rw [ew]
        refine ⟨⟨k + 1, Nat.succ_le_of_lt LT.out, rfl, W8.out v2 V2.out, (CF.out v2 V2.out).2.1, (CF.out v2 V2.out).2.2, ⟨n + 1, Nat.succ_le_succ HN.out, ?_⟩, fun j hj => ?_⟩, msr LT.out⟩
        · rw [setJ_succ _ _ _ ES.out]; exact T1.out.below V2.out
        · rcases Nat.lt_succ_iff_lt_or_eq.1 hj with h | rfl
          · exact AL.out j h
          · exact CA.out
    · have kl : ¬ (k : Int) < m.js.length := by omega
      have ek : k = m.js.length := by omega
      subst ek
      have ev : VV = .agg #[.int .i64 0, .int .i64 0, .int .i64 0] := by rw [← HV.out]; exact jb_none AL.out
      have AN : Hid _ := ev
      clear ev hbw hlt
      go_wp2_with (refine wpList_store_row rfl 69 _ _ rfl (w.heap.size + 1) _ rfl rfl _ _ HZ.out fw_info rfl (by kernel_rfl) ?_)
      refine bodyPost_ret (v := .agg #[.int .i64 0, .int .i64 0, .int .i64 0]) (results_cell_row Tryz.results26 _ _ (w.heap.size + 1) _ _ (0, 0) _ (by first | rfl | simp [Act.put]) (setRow_heap _ _ _ _ _ _ HZ.out) Tryz.underlying69 rfl fw_info) rfl ?_
      exact ⟨by rw [AN.out], row_below HW.out (by omega) _⟩
end Go.Proofs.YtpcjnhffpkpchaaGreat
namespace Go.Proofs.YtpcjnhffpkpchaaGreat
set_option linter.unusedVariables false
open Go.RowKit
theorem bel_drewN {B : Nat} {a w : World} (h : Below B a w) (n : Nat) : Below B a (w.drewN n) := by
  induction n with
  | zero => exact h
  | succ n ih => exact ih.drew
/-- Three numbers as a flaw. -/
def tri (t : Int × Int × Int) : Value := .agg #[.int .i64 t.1, .int .i64 t.2.1, .int .i64 t.2.2]
/-- What a look at the head answers. -/
def hd3 (m : ImR) : Int × Int × Int := if nameB m.nm = false then (0, 0, 6) else if 4096 < m.cs.length then (4096, 0, 4) else if 64 < m.fs.length then (64, 0, 4) else if 16 < m.js.length then (16, 0, 4) else (0, 0, 0)
/-- What the four looks answer. -/
def lk3 (m : ImR) : Nat → Int × Int × Int
  | 0 => hd3 m
  | 1 => match fstN (ceAt m.cs) m.cs.length with
    | some i => (i, 0, 203)
    | none => (0, 0, 0)
  | 2 => match fstN (fun i => decide ((flAt m i).2 = 0)) m.fs.length with
    | some i => (i, (flAt m i).1, (flAt m i).2)
    | none => (0, 0, 0)
  | _ => match fstN (fun i => decide (jbAt m i = 0)) m.js.length with
    | some i => (i, 0, jbAt m i)
    | none => (0, 0, 0)
theorem lk_1 (m : ImR) : fwV (fstN (ceAt m.cs) m.cs.length) 203 = tri (lk3 m 1) := by
  unfold fwV tri lk3
  cases fstN (ceAt m.cs) m.cs.length <;> rfl
theorem lk_2 (m : ImR) : flV m = tri (lk3 m 2) := by
  unfold flV tri lk3
  cases fstN (fun i => decide ((flAt m i).2 = 0)) m.fs.length <;> rfl
theorem lk_3 (m : ImR) : jbV m = tri (lk3 m 3) := by
  unfold jbV tri lk3
  cases fstN (fun i => decide (jbAt m i = 0)) m.js.length <;> rfl
theorem fst_bad {f : Nat → Bool} {n k : Nat} (h : fstN f n = some k) : f k = false := by
  unfold fstN at h
  have := List.find?_some h
  simpa using this
theorem hd_0 {m : ImR} (h : (lk3 m 0).2.2 = 0) : nameB m.nm = true ∧ ¬ 4096 < m.cs.length ∧ ¬ 64 < m.fs.length ∧ ¬ 16 < m.js.length := by
  have h' : (hd3 m).2.2 = 0 := h
  unfold hd3 at h'
  by_cases a : nameB m.nm = false
  · rw [if_pos a] at h'; exact absurd h' (by decide)
  rw [if_neg a] at h'
  by_cases b : 4096 < m.cs.length
  · rw [if_pos b] at h'; exact absurd h' (by decide)
  rw [if_neg b] at h'
  by_cases c : 64 < m.fs.length
  · rw [if_pos c] at h'; exact absurd h' (by decide)
  rw [if_neg c] at h'
  by_cases d : 16 < m.js.length
  · rw [if_pos d] at h'; exact absurd h' (by decide)
  exact ⟨by simpa using a, b, c, d⟩
theorem lk_none1 {m : ImR} (h : (lk3 m 1).2.2 = 0) : fstN (ceAt m.cs) m.cs.length = none := by
  unfold lk3 at h
  cases q : fstN (ceAt m.cs) m.cs.length with
  | none => rfl
  | some i => rw [q] at h; exact absurd (show (203 : Int) = 0 from h) (by decide)
theorem lk_none2 {m : ImR} (h : (lk3 m 2).2.2 = 0) : fstN (fun i => decide ((flAt m i).2 = 0)) m.fs.length = none := by
  unfold lk3 at h
  cases q : fstN (fun i => decide ((flAt m i).2 = 0)) m.fs.length with
  | none => rfl
  | some i =>
    rw [q] at h
    have := fst_bad q
    simp only [decide_eq_false_iff_not] at this
    exact absurd h this
theorem lk_none3 {m : ImR} (h : (lk3 m 3).2.2 = 0) : fstN (fun i => decide (jbAt m i = 0)) m.js.length = none := by
  unfold lk3 at h
  cases q : fstN (fun i => decide (jbAt m i = 0)) m.js.length with
  | none => rfl
  | some i =>
    rw [q] at h
    have := fst_bad q
    simp only [decide_eq_false_iff_not] at this
    exact absurd h this
theorem chk_0 {m : ImR} (h : (lk3 m 0).2.2 ≠ 0) : chk m = lk3 m 0 := by
  show chk m = hd3 m
  have h' : (hd3 m).2.2 ≠ 0 := h
  unfold hd3 at h' ⊢
  unfold chk
  by_cases a : nameB m.nm = false
  · rw [if_pos a, if_pos a]
  rw [if_neg a] at h'
  rw [if_neg a, if_neg a]
  by_cases b : 4096 < m.cs.length
  · rw [if_pos b, if_pos b]
  rw [if_neg b] at h'
  rw [if_neg b, if_neg b]
  by_cases c : 64 < m.fs.length
  · rw [if_pos c, if_pos c]
  rw [if_neg c] at h'
  rw [if_neg c, if_neg c]
  by_cases d : 16 < m.js.length
  · rw [if_pos d, if_pos d]
  rw [if_neg d] at h'
  exact absurd rfl h'
theorem chk_1 {m : ImR} (h0 : (lk3 m 0).2.2 = 0) : chk m = if (lk3 m 1).2.2 ≠ 0 then lk3 m 1 else if (lk3 m 2).2.2 ≠ 0 then lk3 m 2 else if (lk3 m 3).2.2 ≠ 0 then lk3 m 3 else (0, 0, 0) := by
  obtain ⟨a, b, c, d⟩ := hd_0 h0
  unfold chk
  rw [if_neg (by rw [a]; simp), if_neg b, if_neg c, if_neg d]
  by_cases q1 : (lk3 m 1).2.2 = 0
  · rw [if_neg (by simp [q1]), lk_none1 q1]
    by_cases q2 : (lk3 m 2).2.2 = 0
    · rw [if_neg (by simp [q2]), lk_none2 q2]
      by_cases q3 : (lk3 m 3).2.2 = 0
      · rw [if_neg (by simp [q3]), lk_none3 q3]
      · rw [if_pos q3]
        unfold lk3 at q3 ⊢
        cases q : fstN (fun i => decide (jbAt m i = 0)) m.js.length with
        | none => rw [q] at q3; exact absurd rfl q3
        | some i => rfl
    · rw [if_pos q2]
      unfold lk3 at q2 ⊢
      cases q : fstN (fun i => decide ((flAt m i).2 = 0)) m.fs.length with
      | none => rw [q] at q2; exact absurd rfl q2
      | some i => rfl
  · rw [if_pos q1]
    unfold lk3 at q1 ⊢
    cases q : fstN (ceAt m.cs) m.cs.length with
    | none => rw [q] at q1; exact absurd rfl q1
    | some i => rfl
theorem chk_at {m : ImR} {k : Nat} (hk : k < 4) (h : ∀ i, i < k → (lk3 m i).2.2 = 0) (hb : (lk3 m k).2.2 ≠ 0) : chk m = lk3 m k := by
  rcases (show k = 0 ∨ k = 1 ∨ k = 2 ∨ k = 3 by omega) with rfl | rfl | rfl | rfl
  · exact chk_0 hb
  · rw [chk_1 (h 0 (by omega)), if_pos hb]
  · rw [chk_1 (h 0 (by omega)), if_neg (by simp [h 1 (by omega)]), if_pos hb]
  · rw [chk_1 (h 0 (by omega)), if_neg (by simp [h 1 (by omega)]), if_neg (by simp [h 2 (by omega)]), if_pos hb]
theorem chk_all {m : ImR} (h : ∀ i, i < 4 → (lk3 m i).2.2 = 0) : chk m = (0, 0, 0) := by
  rw [chk_1 (h 0 (by omega)), if_neg (by simp [h 1 (by omega)]), if_neg (by simp [h 2 (by omega)]), if_neg (by simp [h 3 (by omega)])]
/-- Where no code has a fault, the codes' cells are so many. -/
theorem codes_ce {m : ImR} (h : (lk3 m 2).2.2 = 0) : ∀ f ∈ m.fs, 0 ≤ f.ce ∧ f.ce ≤ 4096 := by
  intro f hf
  obtain ⟨i, hi⟩ := List.mem_iff_getElem?.1 hf
  have hl := (List.getElem?_eq_some_iff.1 hi).1
  have n := lk_none2 h
  unfold fstN at n
  rw [List.find?_range_eq_none] at n
  have z := n i hl
  simp only [Bool.not_not, decide_eq_true_eq] at z
  unfold flAt at z
  rw [hi] at z
  simp only at z
  by_cases a : nameB f.nm = false
  · rw [if_pos a] at z; exact absurd z (by decide)
  rw [if_neg a] at z
  by_cases b : coB f m.cs.length = false
  · rw [if_pos b] at z; exact absurd z (by decide)
  have b' : coB f m.cs.length = true := by simpa using b
  unfold coB stB at b'
  simp only [Bool.and_eq_true] at b'
  exact inB_t b'.1.1.1.1.1.2
set_option maxRecDepth 20000 in
set_option maxHeartbeats 8000000 in
theorem headFlaw_of (m : ImR) (x1 x2 x3 : Option Addr) (p1 p2 p3 : Nat) (w : World) (hn : shT m.nm) :
    Calls Tryz.prog 23 #[.agg #[.string m.nm, .slice x1 m.cs.length p1, .slice x2 m.fs.length p2, .slice x3 m.js.length p3]] w fun e w' => e = .returned (tri (hd3 m)) ∧ Below w.heap.size w w' := by
  have N1 : Hid (∀ W, Calls Tryz.prog 51 #[.string m.nm] W fun e w' => e = .returned (.bool (nameB m.nm)) ∧ w' = W) := fun W => IsName_of m.nm W (sh_max hn)
  clear hn
  generalize hv : tri (hd3 m) = VV
  have HV : Hid (tri (hd3 m) = VV) := hv
  clear hv
  obtain ⟨AW, eW⟩ : ∃ AW, AW = (w.alloc (.cells #[.string m.nm, .slice x1 m.cs.length p1, .slice x2 m.fs.length p2, .slice x3 m.js.length p3] 26 (0, 0))).alloc (.cells #[.int .i64 0, .int .i64 0, .int .i64 0] 69 (0, 0)) := ⟨_, rfl⟩
  have AB : Hid (Below w.heap.size w AW) := by rw [eW]; exact ((Below.refl _ _).alloc (Nat.le_refl _) _).alloc (by simp) _
  have AZ : Hid (AW.heap[w.heap.size + 1]? = some (.cells #[.int .i64 0, .int .i64 0, .int .i64 0] 69 (0, 0))) := by rw [eW]; exact (tw_at w _ _).2
  have AX : Hid (AW.heap[w.heap.size]? = some (.cells #[.string m.nm, .slice x1 m.cs.length p1, .slice x2 m.fs.length p2, .slice x3 m.js.length p3] 26 (0, 0))) := by rw [eW]; exact (tw_at w _ _).1
  have k0 : AW.cell? ⟨w.heap.size, 0, none⟩ = some (.string m.nm) := by simp [World.cell?, AX.out]
  have k1 : AW.cell? ⟨w.heap.size, 1, none⟩ = some (.slice x1 m.cs.length p1) := by simp [World.cell?, AX.out]
  have k2 : AW.cell? ⟨w.heap.size, 2, none⟩ = some (.slice x2 m.fs.length p2) := by simp [World.cell?, AX.out]
  have k3 : AW.cell? ⟨w.heap.size, 3, none⟩ = some (.slice x3 m.js.length p3) := by simp [World.cell?, AX.out]
  go_enter Tryz.func23, Tryz.ntmps23
  go_upto_region 1 with fail
  rw [← eW]
  clear eW
  generalize hr0 : nameB m.nm = r0 at N1
  have R0 : Hid (nameB m.nm = r0) := hr0
  clear hr0
  go_wp2_with fail
  refine (N1.out _).mono ?_
  rintro e wN ⟨rfl, hN⟩
  rw [hN]
  clear hN wN
  cases r0
  · skip
    have ev : VV = .agg #[.int .i64 0, .int .i64 0, .int .i64 6] := by rw [← HV.out]; unfold hd3; rw [if_pos R0.out]; rfl
    subst ev
    go_wp2_with (refine wpList_store_row rfl 69 _ _ rfl (w.heap.size + 1) _ rfl rfl _ _ AZ.out fw_info rfl (by kernel_rfl) ?_)
    refine bodyPost_ret (v := .agg #[.int .i64 0, .int .i64 0, .int .i64 6]) (results_cell_row Tryz.results23 _ _ (w.heap.size + 1) _ _ (0, 0) _ (by first | rfl | simp [Act.put]) (setRow_heap _ _ _ _ _ _ AZ.out) Tryz.underlying69 rfl fw_info) rfl ?_
    exact ⟨rfl, row_below AB.out (by omega) _⟩
  by_cases qQ1 : 4096 < m.cs.length
  · have iQ1 : (4096 : Int) < (m.cs.length : Int) := by omega
    have Q1 : Hid (4096 < m.cs.length) := qQ1
    clear qQ1
    have ev : VV = .agg #[.int .i64 4096, .int .i64 0, .int .i64 4] := by rw [← HV.out]; unfold hd3; rw [if_neg (by rw [R0.out]; simp), if_pos Q1.out]; rfl
    subst ev
    go_wp2_with (refine wpList_store_row rfl 69 _ _ rfl (w.heap.size + 1) _ rfl rfl _ _ AZ.out fw_info rfl (by kernel_rfl) ?_)
    refine bodyPost_ret (v := .agg #[.int .i64 4096, .int .i64 0, .int .i64 4]) (results_cell_row Tryz.results23 _ _ (w.heap.size + 1) _ _ (0, 0) _ (by first | rfl | simp [Act.put]) (setRow_heap _ _ _ _ _ _ AZ.out) Tryz.underlying69 rfl fw_info) rfl ?_
    exact ⟨rfl, row_below AB.out (by omega) _⟩
  have iQ1 : ¬ (4096 : Int) < (m.cs.length : Int) := by omega
  have Q1 : Hid (¬ 4096 < m.cs.length) := qQ1
  clear qQ1
  by_cases qQ2 : 64 < m.fs.length
  · have iQ2 : (64 : Int) < (m.fs.length : Int) := by omega
    have Q2 : Hid (64 < m.fs.length) := qQ2
    clear qQ2
    have ev : VV = .agg #[.int .i64 64, .int .i64 0, .int .i64 4] := by rw [← HV.out]; unfold hd3; rw [if_neg (by rw [R0.out]; simp), if_neg Q1.out, if_pos Q2.out]; rfl
    subst ev
    go_wp2_with (refine wpList_store_row rfl 69 _ _ rfl (w.heap.size + 1) _ rfl rfl _ _ AZ.out fw_info rfl (by kernel_rfl) ?_)
    refine bodyPost_ret (v := .agg #[.int .i64 64, .int .i64 0, .int .i64 4]) (results_cell_row Tryz.results23 _ _ (w.heap.size + 1) _ _ (0, 0) _ (by first | rfl | simp [Act.put]) (setRow_heap _ _ _ _ _ _ AZ.out) Tryz.underlying69 rfl fw_info) rfl ?_
    exact ⟨rfl, row_below AB.out (by omega) _⟩
  have iQ2 : ¬ (64 : Int) < (m.fs.length : Int) := by omega
  have Q2 : Hid (¬ 64 < m.fs.length) := qQ2
  clear qQ2
  by_cases qQ3 : 16 < m.js.length
  · have iQ3 : (16 : Int) < (m.js.length : Int) := by omega
    have Q3 : Hid (16 < m.js.length) := qQ3
    clear qQ3
    have ev : VV = .agg #[.int .i64 16, .int .i64 0, .int .i64 4] := by rw [← HV.out]; unfold hd3; rw [if_neg (by rw [R0.out]; simp), if_neg Q1.out, if_neg Q2.out, if_pos Q3.out]; rfl
    subst ev
    go_wp2_with (refine wpList_store_row rfl 69 _ _ rfl (w.heap.size + 1) _ rfl rfl _ _ AZ.out fw_info rfl (by kernel_rfl) ?_)
    refine bodyPost_ret (v := .agg #[.int .i64 16, .int .i64 0, .int .i64 4]) (results_cell_row Tryz.results23 _ _ (w.heap.size + 1) _ _ (0, 0) _ (by first | rfl | simp [Act.put]) (setRow_heap _ _ _ _ _ _ AZ.out) Tryz.underlying69 rfl fw_info) rfl ?_
    exact ⟨rfl, row_below AB.out (by omega) _⟩
  have iQ3 : ¬ (16 : Int) < (m.js.length : Int) := by omega
  have Q3 : Hid (¬ 16 < m.js.length) := qQ3
  clear qQ3
  have ev : VV = .agg #[.int .i64 0, .int .i64 0, .int .i64 0] := by rw [← HV.out]; unfold hd3; rw [if_neg (by rw [R0.out]; simp), if_neg Q1.out, if_neg Q2.out, if_neg Q3.out]; rfl
  subst ev
  go_wp2_with (refine wpList_store_row rfl 69 _ _ rfl (w.heap.size + 1) _ rfl rfl _ _ AZ.out fw_info rfl (by kernel_rfl) ?_)
  refine bodyPost_ret (v := .agg #[.int .i64 0, .int .i64 0, .int .i64 0]) (results_cell_row Tryz.results23 _ _ (w.heap.size + 1) _ _ (0, 0) _ (by first | rfl | simp [Act.put]) (setRow_heap _ _ _ _ _ _ AZ.out) Tryz.underlying69 rfl fw_info) rfl ?_
  exact ⟨rfl, row_below AB.out (by omega) _⟩
set_option maxRecDepth 20000 in
set_option maxHeartbeats 8000000 in
theorem CheckI_of (m : ImR) (x1 x2 x3 : Option Addr) (p1 p2 p3 : Nat) (w : World) {S : Nat → Prop} (hS : ∀ b, S b → b < w.heap.size) (hq : ImQ S w m x1 x2 x3) (ho : ImOk m) :
    Calls Tryz.prog 13 #[.agg #[.string m.nm, .slice x1 m.cs.length p1, .slice x2 m.fs.length p2, .slice x3 m.js.length p3]] w fun e w' => e = .returned (.tuple #[.int .i64 (chk m).1, .int .i64 (chk m).2.1, .int .i64 (chk m).2.2]) ∧ Below w.heap.size w w' := by
  obtain ⟨o1, o2, o3, o4, o5, o6, o7⟩ := ho
  have SV : Hid (∀ V, Below w.heap.size w V → ∀ b, S b → b < V.heap.size) := fun V h b hb => Nat.lt_of_lt_of_le (hS b hb) h.size
  have FV : Hid (∀ V, Below w.heap.size w V → FrS S w V) := fun V h q hq => h.cell (hS _ hq)
  have L0 : Hid (∀ V, Below w.heap.size w V → Calls Tryz.prog 23 #[.agg #[.string m.nm, .slice x1 m.cs.length p1, .slice x2 m.fs.length p2, .slice x3 m.js.length p3]] V fun e w' => e = .returned (tri (lk3 m 0)) ∧ Below V.heap.size V w') := fun V h => headFlaw_of m x1 x2 x3 p1 p2 p3 V o1
  have L1 : Hid (∀ V, Below w.heap.size w V → Calls Tryz.prog 24 #[.agg #[.string m.nm, .slice x1 m.cs.length p1, .slice x2 m.fs.length p2, .slice x3 m.js.length p3]] V fun e w' => e = .returned (tri (lk3 m 1)) ∧ Below V.heap.size V w') := fun V h => by rw [← lk_1]; exact cellFlaw_of m x1 x2 x3 p1 p2 p3 V (SV.out V h) (hq.1.fr (FV.out V h)) o2
  have L2 : Hid (∀ V, Below w.heap.size w V → Calls Tryz.prog 25 #[.agg #[.string m.nm, .slice x1 m.cs.length p1, .slice x2 m.fs.length p2, .slice x3 m.js.length p3]] V fun e w' => e = .returned (tri (lk3 m 2)) ∧ Below V.heap.size V w') := fun V h => by rw [← lk_2]; exact codeFlaw_of m x1 x2 x3 p1 p2 p3 V (SV.out V h) (hq.2.1.frK keptF (FV.out V h)) o3 o5 o6
  have L3 : Hid (∀ V, Below w.heap.size w V → (lk3 m 0).2.2 = 0 → (lk3 m 1).2.2 = 0 → (lk3 m 2).2.2 = 0 → Calls Tryz.prog 26 #[.agg #[.string m.nm, .slice x1 m.cs.length p1, .slice x2 m.fs.length p2, .slice x3 m.js.length p3]] V fun e w' => e = .returned (tri (lk3 m 3)) ∧ Below V.heap.size V w') := fun V h _ _ z => by rw [← lk_3]; exact jobFlaw_of m x1 x2 x3 p1 p2 p3 V (SV.out V h) (hq.1.fr (FV.out V h)) (hq.2.1.frK keptF (FV.out V h)) (hq.2.2.frK keptJ (FV.out V h)) o4 o5 o6 o7 (codes_ce z)
  clear hS hq o1 o2 o3 o4 o5 o6 o7 SV FV
  have E0 : ∀ (args : Array Value) (W : World), (callFunc 23 args).run Tryz.prog W = .ok (.enter 23 args) W := fun _ _ => by kernel_rfl
  have E1 : ∀ (args : Array Value) (W : World), (callFunc 24 args).run Tryz.prog W = .ok (.enter 24 args) W := fun _ _ => by kernel_rfl
  have E2 : ∀ (args : Array Value) (W : World), (callFunc 25 args).run Tryz.prog W = .ok (.enter 25 args) W := fun _ _ => by kernel_rfl
  have E3 : ∀ (args : Array Value) (W : World), (callFunc 26 args).run Tryz.prog W = .ok (.enter 26 args) W := fun _ _ => by kernel_rfl
  obtain ⟨AW, eW⟩ : ∃ AW, AW = w.alloc (.cells #[.string m.nm, .slice x1 m.cs.length p1, .slice x2 m.fs.length p2, .slice x3 m.js.length p3] 26 (0, 0)) := ⟨_, rfl⟩
  have AB : Hid (Below w.heap.size w AW) := by rw [eW]; exact (Below.refl _ _).alloc (Nat.le_refl _) _
  have AX : Hid (AW.heap[w.heap.size]? = some (.cells #[.string m.nm, .slice x1 m.cs.length p1, .slice x2 m.fs.length p2, .slice x3 m.js.length p3] 26 (0, 0))) := by rw [eW]; exact heap_alloc_last _ _
  go_enter Tryz.func13, Tryz.ntmps13
  go_wp2_with fail
  rw [← eW]
  clear eW
  go_loopw [9] (fun i wr => ∃ k : Nat, k ≤ 4 ∧ i = .int .i64 k ∧ Below w.heap.size w wr ∧ wr.heap[w.heap.size]? = some (.cells #[.string m.nm, .slice x1 m.cs.length p1, .slice x2 m.fs.length p2, .slice x3 m.js.length p3] 26 (0, 0)) ∧ ∀ i, i < k → (lk3 m i).2.2 = 0) (fun i _ => 4 - (intOf i).toNat)
  case atStart => exact ⟨0, Nat.zero_le _, rfl, AB.out, AX.out, fun j hj => absurd hj (Nat.not_lt_zero _)⟩
  case round =>
    obtain ⟨k, hk, rfl, hbw, hx, hall⟩ := hrel
    have HW : Hid (Below w.heap.size w wr) := hbw
    have HX : Hid (wr.heap[w.heap.size]? = some (.cells #[.string m.nm, .slice x1 m.cs.length p1, .slice x2 m.fs.length p2, .slice x3 m.js.length p3] 26 (0, 0))) := hx
    have AL : Hid (∀ i, i < k → (lk3 m i).2.2 = 0) := hall
    clear hbw hx hall AB AX
    by_cases hlt : k < 4
    · have k0 : wr.cell? ⟨w.heap.size, 0, none⟩ = some (.string m.nm) := by simp [World.cell?, HX.out]
      have k1 : wr.cell? ⟨w.heap.size, 1, none⟩ = some (.slice x1 m.cs.length p1) := by simp [World.cell?, HX.out]
      have k2 : wr.cell? ⟨w.heap.size, 2, none⟩ = some (.slice x2 m.fs.length p2) := by simp [World.cell?, HX.out]
      have k3 : wr.cell? ⟨w.heap.size, 3, none⟩ = some (.slice x3 m.js.length p3) := by simp [World.cell?, HX.out]
      rcases (show k = 0 ∨ k = 1 ∨ k = 2 ∨ k = 3 by omega) with rfl | rfl | rfl | rfl
      · have C : Hid (Calls Tryz.prog 23 #[.agg #[.string m.nm, .slice x1 m.cs.length p1, .slice x2 m.fs.length p2, .slice x3 m.js.length p3]] wr fun e w' => e = .returned (tri (lk3 m 0)) ∧ Below wr.heap.size wr w') := L0.out wr HW.out
        have NX : Hid ((lk3 m 0).2.2 = 0 → ∀ i, i < 0 + 1 → (lk3 m i).2.2 = 0) := fun h i hi => by
          rcases Nat.lt_succ_iff_lt_or_eq.1 hi with q | q
          · exact AL.out i q
          · rw [q]; exact h
        have BD : Hid ((lk3 m 0).2.2 ≠ 0 → chk m = lk3 m 0) := fun h => chk_at (by omega) AL.out h
        have ix : ∀ W : World, (Instr.index 67 (.agg #[.func (.func 23) #[] #[], .func (.func 24) #[] #[], .func (.func 25) #[] #[], .func (.func 26) #[] #[]]) (.int .i64 0)).run Tryz.prog W = .ok (.func (.func 23) #[] #[]) W := fun W => by kernel_rfl
        generalize lk3 m 0 = t at *
        obtain ⟨a, b, c⟩ := t
        simp only at NX BD
        go_wp2_with fail
        refine C.out.mono ?_
        rintro e v1 ⟨rfl, hb1⟩
        have V1 : Hid (Below wr.heap.size wr v1) := hb1
        clear hb1 k0 k1 k2 k3 C
        have W1 : Hid (∀ X : Obj, Below w.heap.size w (v1.alloc X)) := fun X => HW.out.trans ((V1.out.trans (((Below.refl _ _).alloc (Nat.le_refl _) X).mono V1.out.size)).mono HW.out.size)
        have X1 : Hid (∀ X : Obj, (v1.alloc X).heap[w.heap.size]? = some (.cells #[.string m.nm, .slice x1 m.cs.length p1, .slice x2 m.fs.length p2, .slice x3 m.js.length p3] 26 (0, 0))) := fun X => ((V1.out.trans (((Below.refl _ _).alloc (Nat.le_refl _) X).mono V1.out.size)).block _ (blk_in HX.out)).trans HX.out
        unfold tri
        by_cases qc : c = 0
        · have n1 : (c == 0) = true := by simp [qc]
          have n2 : (c != 0) = false := by simp [qc]
          have NN : Hid _ := NX.out qc
          clear qc NX BD
          go_wp2
          exact ⟨⟨0 + 1, by omega, rfl, W1.out _, X1.out _, NN.out⟩, by decide⟩
        · have n1 : (c == 0) = false := by simp [qc]
          have n2 : (c != 0) = true := by simp [qc]
          have NN : Hid _ := BD.out qc
          clear qc NX BD
          go_wp2_with fail
          go_quiet (fail)
          go_wp2
          exact bodyPost_ret (v := .tuple #[.int .i64 a, .int .i64 b, .int .i64 c]) (by simp [results, Tryz.results13, go_sem]) rfl ⟨by rw [NN.out], by first | exact W1.out _ | exact (W1.out _).drew | exact bel_drewN (W1.out _) _⟩
      · have C : Hid (Calls Tryz.prog 24 #[.agg #[.string m.nm, .slice x1 m.cs.length p1, .slice x2 m.fs.length p2, .slice x3 m.js.length p3]] wr fun e w' => e = .returned (tri (lk3 m 1)) ∧ Below wr.heap.size wr w') := L1.out wr HW.out
        have NX : Hid ((lk3 m 1).2.2 = 0 → ∀ i, i < 1 + 1 → (lk3 m i).2.2 = 0) := fun h i hi => by
          rcases Nat.lt_succ_iff_lt_or_eq.1 hi with q | q
          · exact AL.out i q
          · rw [q]; exact h
        have BD : Hid ((lk3 m 1).2.2 ≠ 0 → chk m = lk3 m 1) := fun h => chk_at (by omega) AL.out h
        have ix : ∀ W : World, (Instr.index 67 (.agg #[.func (.func 23) #[] #[], .func (.func 24) #[] #[], .func (.func 25) #[] #[], .func (.func 26) #[] #[]]) (.int .i64 1)).run Tryz.prog W = .ok (.func (.func 24) #[] #[]) W := fun W => by kernel_rfl
        generalize lk3 m 1 = t at *
        obtain ⟨a, b, c⟩ := t
        simp only at NX BD
        go_wp2_with fail
        refine C.out.mono ?_
        rintro e v1 ⟨rfl, hb1⟩
        have V1 : Hid (Below wr.heap.size wr v1) := hb1
        clear hb1 k0 k1 k2 k3 C
        have W1 : Hid (∀ X : Obj, Below w.heap.size w (v1.alloc X)) := fun X => HW.out.trans ((V1.out.trans (((Below.refl _ _).alloc (Nat.le_refl _) X).mono V1.out.size)).mono HW.out.size)
        have X1 : Hid (∀ X : Obj, (v1.alloc X).heap[w.heap.size]? = some (.cells #[.string m.nm, .slice x1 m.cs.length p1, .slice x2 m.fs.length p2, .slice x3 m.js.length p3] 26 (0, 0))) := fun X => ((V1.out.trans (((Below.refl _ _).alloc (Nat.le_refl _) X).mono V1.out.size)).block _ (blk_in HX.out)).trans HX.out
        unfold tri
        by_cases qc : c = 0
        · have n1 : (c == 0) = true := by simp [qc]
          have n2 : (c != 0) = false := by simp [qc]
          have NN : Hid _ := NX.out qc
          clear qc NX BD
          go_wp2
          exact ⟨⟨1 + 1, by omega, rfl, W1.out _, X1.out _, NN.out⟩, by decide⟩
        · have n1 : (c == 0) = false := by simp [qc]
          have n2 : (c != 0) = true := by simp [qc]
          have NN : Hid _ := BD.out qc
          clear qc NX BD
          go_wp2_with fail
          go_quiet (fail)
          go_wp2
          exact bodyPost_ret (v := .tuple #[.int .i64 a, .int .i64 b, .int .i64 c]) (by simp [results, Tryz.results13, go_sem]) rfl ⟨by rw [NN.out], by first | exact W1.out _ | exact (W1.out _).drew | exact bel_drewN (W1.out _) _⟩
      · have C : Hid (Calls Tryz.prog 25 #[.agg #[.string m.nm, .slice x1 m.cs.length p1, .slice x2 m.fs.length p2, .slice x3 m.js.length p3]] wr fun e w' => e = .returned (tri (lk3 m 2)) ∧ Below wr.heap.size wr w') := L2.out wr HW.out
        have NX : Hid ((lk3 m 2).2.2 = 0 → ∀ i, i < 2 + 1 → (lk3 m i).2.2 = 0) := fun h i hi => by
          rcases Nat.lt_succ_iff_lt_or_eq.1 hi with q | q
          · exact AL.out i q
          · rw [q]; exact h
        have BD : Hid ((lk3 m 2).2.2 ≠ 0 → chk m = lk3 m 2) := fun h => chk_at (by omega) AL.out h
        have ix : ∀ W : World, (Instr.index 67 (.agg #[.func (.func 23) #[] #[], .func (.func 24) #[] #[], .func (.func 25) #[] #[], .func (.func 26) #[] #[]]) (.int .i64 2)).run Tryz.prog W = .ok (.func (.func 25) #[] #[]) W := fun W => by kernel_rfl
        generalize lk3 m 2 = t at *
        obtain ⟨a, b, c⟩ := t
        simp only at NX BD
        go_wp2_with fail
        refine C.out.mono ?_
        rintro e v1 ⟨rfl, hb1⟩
        have V1 : Hid (Below wr.heap.size wr v1) := hb1
        clear hb1 k0 k1 k2 k3 C
        have W1 : Hid (∀ X : Obj, Below w.heap.size w (v1.alloc X)) := fun X => HW.out.trans ((V1.out.trans (((Below.refl _ _).alloc (Nat.le_refl _) X).mono V1.out.size)).mono HW.out.size)
        have X1 : Hid (∀ X : Obj, (v1.alloc X).heap[w.heap.size]? = some (.cells #[.string m.nm, .slice x1 m.cs.length p1, .slice x2 m.fs.length p2, .slice x3 m.js.length p3] 26 (0, 0))) := fun X => ((V1.out.trans (((Below.refl _ _).alloc (Nat.le_refl _) X).mono V1.out.size)).block _ (blk_in HX.out)).trans HX.out
        unfold tri
        by_cases qc : c = 0
        · have n1 : (c == 0) = true := by simp [qc]
          have n2 : (c != 0) = false := by simp [qc]
          have NN : Hid _ := NX.out qc
          clear qc NX BD
          go_wp2
          exact ⟨⟨2 + 1, by omega, rfl, W1.out _, X1.out _, NN.out⟩, by decide⟩
        · have n1 : (c == 0) = false := by simp [qc]
          have n2 : (c != 0) = true := by simp [qc]
          have NN : Hid _ := BD.out qc
          clear qc NX BD
          go_wp2_with fail
          go_quiet (fail)
          go_wp2
          exact bodyPost_ret (v := .tuple #[.int .i64 a, .int .i64 b, .int .i64 c]) (by simp [results, Tryz.results13, go_sem]) rfl ⟨by rw [NN.out], by first | exact W1.out _ | exact (W1.out _).drew | exact bel_drewN (W1.out _) _⟩
      · have C : Hid (Calls Tryz.prog 26 #[.agg #[.string m.nm, .slice x1 m.cs.length p1, .slice x2 m.fs.length p2, .slice x3 m.js.length p3]] wr fun e w' => e = .returned (tri (lk3 m 3)) ∧ Below wr.heap.size wr w') := L3.out wr HW.out (AL.out 0 (by omega)) (AL.out 1 (by omega)) (AL.out 2 (by omega))
        have NX : Hid ((lk3 m 3).2.2 = 0 → ∀ i, i < 3 + 1 → (lk3 m i).2.2 = 0) := fun h i hi => by
          rcases Nat.lt_succ_iff_lt_or_eq.1 hi with q | q
          · exact AL.out i q
          · rw [q]; exact h
        have BD : Hid ((lk3 m 3).2.2 ≠ 0 → chk m = lk3 m 3) := fun h => chk_at (by omega) AL.out h
        have ix : ∀ W : World, (Instr.index 67 (.agg #[.func (.func 23) #[] #[], .func (.func 24) #[] #[], .func (.func 25) #[] #[], .func (.func 26) #[] #[]]) (.int .i64 3)).run Tryz.prog W = .ok (.func (.func 26) #[] #[]) W := fun W => by kernel_rfl
        generalize lk3 m 3 = t at *
        obtain ⟨a, b, c⟩ := t
        simp only at NX BD
        go_wp2_with fail
        refine C.out.mono ?_
        rintro e v1 ⟨rfl, hb1⟩
        have V1 : Hid (Below wr.heap.size wr v1) := hb1
        clear hb1 k0 k1 k2 k3 C
        have W1 : Hid (∀ X : Obj, Below w.heap.size w (v1.alloc X)) := fun X => HW.out.trans ((V1.out.trans (((Below.refl _ _).alloc (Nat.le_refl _) X).mono V1.out.size)).mono HW.out.size)
        have X1 : Hid (∀ X : Obj, (v1.alloc X).heap[w.heap.size]? = some (.cells #[.string m.nm, .slice x1 m.cs.length p1, .slice x2 m.fs.length p2, .slice x3 m.js.length p3] 26 (0, 0))) := fun X => ((V1.out.trans (((Below.refl _ _).alloc (Nat.le_refl _) X).mono V1.out.size)).block _ (blk_in HX.out)).trans HX.out
        unfold tri
        by_cases qc : c = 0
        · have n1 : (c == 0) = true := by simp [qc]
          have n2 : (c != 0) = false := by simp [qc]
          have NN : Hid _ := NX.out qc
          clear qc NX BD
          go_wp2
          exact ⟨⟨3 + 1, by omega, rfl, W1.out _, X1.out _, NN.out⟩, by decide⟩
        · have n1 : (c == 0) = false := by simp [qc]
          have n2 : (c != 0) = true := by simp [qc]
          have NN : Hid _ := BD.out qc
          clear qc NX BD
          go_wp2_with fail
          go_quiet (fail)
          go_wp2
          exact bodyPost_ret (v := .tuple #[.int .i64 a, .int .i64 b, .int .i64 c]) (by simp [results, Tryz.results13, go_sem]) rfl ⟨by rw [NN.out], by first | exact W1.out _ | exact (W1.out _).drew | exact bel_drewN (W1.out _) _⟩
    · have ek : k = 4 := by omega
      subst ek
      have NN : Hid (chk m = (0, 0, 0)) := chk_all AL.out
      clear hlt hk
      go_wp2
      exact bodyPost_ret (v := .tuple #[.int .i64 0, .int .i64 0, .int .i64 0]) (by simp [results, Tryz.results13, go_sem]) rfl ⟨by rw [NN.out], HW.out⟩
end Go.Proofs.YtpcjnhffpkpchaaGreat
