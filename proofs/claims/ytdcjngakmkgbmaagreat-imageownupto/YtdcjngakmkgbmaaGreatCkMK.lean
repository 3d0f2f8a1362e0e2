/- image: the first code that may not be; no statement of the seat is proved here. -/
import Derived.Test.YtdcjngakmkgbmaaGreatKoB3
import Derived.Test.YtdcjngakmkgbmaaGreatKoA9
import Derived.Test.YtdcjngakmkgbmaaGreatKoA7
namespace Go.Proofs.YtdcjngakmkgbmaaGreat
set_option linter.unusedVariables false
open Go.RowKit
theorem mayDo_of (o : OpR) (f : FlR) (x1 x2 : Option Addr) (p1 p2 : Nat) (cs : Int) (w : World) (ho : OpOk o) (hr : 0 ≤ f.rg ∧ f.rg ≤ 8) (hs : 0 ≤ f.sl ∧ f.sl ≤ 1024) (hn : f.os.length ≤ 1048576) (hq : 0 ≤ cs ∧ cs ≤ 1048576) : Calls Tryz.prog 54 #[OpV o, FlV f x1 x2 p1 p2, .int .i64 cs] w fun e w' => e = .returned (.bool (opB o f.rg f.sl f.os.length cs)) ∧ Below w.heap.size w w' := by
  unfold opB
  cases q : inB 1 23 o.cd
  · rw [Bool.false_and, Bool.false_and, Bool.false_and]
    exact mayDo_no o f x1 x2 p1 p2 cs q w
  · have hc := inB_t q
    have F : Hid (∀ W, Calls Tryz.prog 95 #[.int .i64 o.cd, FlV f x1 x2 p1 p2, .int .i64 cs] W fun e w' => e = .returned (spV (spO o.cd (f.rg - 1) (f.sl - 1) ((f.os.length : Int) - 1) (cs - 1))) ∧ Below W.heap.size W w') := fun W => fieldSpans_of o.cd f x1 x2 p1 p2 cs hc (by omega) (by omega) (by omega) (by omega) W
    rw [Bool.true_and]
    unfold spB
    generalize spO o.cd (f.rg - 1) (f.sl - 1) ((f.os.length : Int) - 1) (cs - 1) = s at *
    exact mayDo_yes o f x1 x2 p1 p2 cs s.1.1 s.1.2 s.2.1.1 s.2.1.2 s.2.2.1.1 s.2.2.1.2 s.2.2.2.1 s.2.2.2.2 w hc ho F
/-- What a look at all codes answers. -/
def flV (m : ImR) : Value := match fstN (fun i => decide ((flAt m i).2 = 0)) m.fs.length with
  | some i => .agg #[.int .i64 i, .int .i64 (flAt m i).1, .int .i64 (flAt m i).2]
  | none => .agg #[.int .i64 0, .int .i64 0, .int .i64 0]
theorem fl_some {m : ImR} {k : Nat} {p e : Int} (hk : k < m.fs.length) (h : ∀ j, j < k → (flAt m j).2 = 0) (hf : flAt m k = (p, e)) (he : e ≠ 0) : flV m = .agg #[.int .i64 k, .int .i64 p, .int .i64 e] := by
  unfold flV
  rw [fstN_some hk (fun j hj => by simp [h j hj]) (by rw [hf]; simp [he])]
  show Value.agg #[.int .i64 k, .int .i64 (flAt m k).1, .int .i64 (flAt m k).2] = _
  rw [hf]
theorem fl_none {m : ImR} (h : ∀ j, j < m.fs.length → (flAt m j).2 = 0) : flV m = .agg #[.int .i64 0, .int .i64 0, .int .i64 0] := by
  unfold flV
  rw [fstN_none (fun j hj => by simp [h j hj])]
/-- What is wrong with a code's instructions. -/
def opQ (f : FlR) (cs : Int) : Int × Int := match fstN (opAt f cs) f.os.length with
  | some p => (p, 202)
  | none => (0, 0)
/-- How many instructions the codes ahead have. -/
def totK (l : List FlR) (k : Nat) : Nat := ((l.take k).map (fun f => f.os.length)).sum
theorem totK_succ {l : List FlR} {k : Nat} {f : FlR} (h : l[k]? = some f) : totN l k = totK l k + f.os.length ∧ totK l (k + 1) = totK l k + f.os.length := by
  unfold totN totK
  rw [List.take_add_one, h]
  simp
set_option maxRecDepth 20000 in
set_option maxHeartbeats 8000000 in
theorem codeFlaw_of (m : ImR) (x1 x2 x3 : Option Addr) (p1 p2 p3 : Nat) (w : World) {S : Nat → Prop} (hS : ∀ b, S b → b < w.heap.size) (ha : RwF 8 (FlP S w) S w x2 m.fs) (ho : ∀ f ∈ m.fs, FlOk f) (hn : m.cs.length ≤ 1048576) (hm : m.fs.length ≤ 1048576) :
    Calls Tryz.prog 23 #[.agg #[.string m.nm, .slice x1 m.cs.length p1, .slice x2 m.fs.length p2, .slice x3 m.js.length p3]] w fun e w' => e = .returned (flV m) ∧ Below w.heap.size w w' := by
  have HA : Hid (RwF 8 (FlP S w) S w x2 m.fs) := ha
  have HS : Hid (∀ b, S b → b < w.heap.size) := hS
  have HO : Hid (∀ f ∈ m.fs, FlOk f) := ho
  have HN : Hid (m.cs.length ≤ 1048576) := hn
  have HM : Hid (m.fs.length ≤ 1048576) := hm
  clear ha hS ho hn hm
  generalize hv : flV m = VV
  have HV : Hid (flV m = VV) := hv
  clear hv
  obtain ⟨AW, eW⟩ : ∃ AW, AW = (w.alloc (.cells #[.string m.nm, .slice x1 m.cs.length p1, .slice x2 m.fs.length p2, .slice x3 m.js.length p3] 26 (0, 0))).alloc (.cells #[.int .i64 0, .int .i64 0, .int .i64 0] 72 (0, 0)) := ⟨_, rfl⟩
  have AB : Hid (Below w.heap.size w AW) := by rw [eW]; exact ((Below.refl _ _).alloc (Nat.le_refl _) _).alloc (by simp) _
  have AZ : Hid (AW.heap[w.heap.size + 1]? = some (.cells #[.int .i64 0, .int .i64 0, .int .i64 0] 72 (0, 0))) := by rw [eW]; exact (tw_at w _ _).2
  have AX : Hid (AW.heap[w.heap.size]? = some (.cells #[.string m.nm, .slice x1 m.cs.length p1, .slice x2 m.fs.length p2, .slice x3 m.js.length p3] 26 (0, 0))) := by rw [eW]; exact (tw_at w _ _).1
  have b2 : AW.cell? ⟨w.heap.size, 2, none⟩ = some (.slice x2 m.fs.length p2) := by simp [World.cell?, AX.out]
  go_enter Tryz.func23, Tryz.ntmps23
  go_wp2_with fail
  rw [← eW]
  clear eW b2
  go_loopw [3, 11] (fun t i wr => ∃ k : Nat, k ≤ m.fs.length ∧ i = .int .i64 k ∧ t = .int .i64 (totK m.fs k) ∧ totK m.fs k ≤ 16384 ∧ Below w.heap.size w wr ∧ wr.heap[w.heap.size]? = some (.cells #[.string m.nm, .slice x1 m.cs.length p1, .slice x2 m.fs.length p2, .slice x3 m.js.length p3] 26 (0, 0)) ∧ wr.heap[w.heap.size + 1]? = some (.cells #[.int .i64 0, .int .i64 0, .int .i64 0] 72 (0, 0)) ∧ ∀ j, j < k → (flAt m j).2 = 0) (fun _ i _ => m.fs.length - (intOf i).toNat)
  case atStart => exact ⟨0, Nat.zero_le _, rfl, rfl, by show 0 ≤ _; omega, AB.out, AX.out, AZ.out, fun j hj => absurd hj (Nat.not_lt_zero _)⟩
  case round =>
    obtain ⟨k, hk, rfl, rfl, ht, hbw, hx, hz, hall⟩ := hrel
    have HW : Hid (Below w.heap.size w wr) := hbw
    have HX : Hid (wr.heap[w.heap.size]? = some (.cells #[.string m.nm, .slice x1 m.cs.length p1, .slice x2 m.fs.length p2, .slice x3 m.js.length p3] 26 (0, 0))) := hx
    have HZ : Hid (wr.heap[w.heap.size + 1]? = some (.cells #[.int .i64 0, .int .i64 0, .int .i64 0] 72 (0, 0))) := hz
    have AL : Hid (∀ j, j < k → (flAt m j).2 = 0) := hall
    have HT : Hid (totK m.fs k ≤ 16384) := ht
    clear hall hx hz AB AZ AX ht
    by_cases hlt : k < m.fs.length
    · obtain ⟨a, rfl⟩ := HA.out.some (by omega)
      obtain ⟨s, sv, se, _, ⟨sx, sc, sy, sd, rfl, sq⟩, sk⟩ := (HA.out.frK keptF (w' := wr) (fun q hq => hbw.cell (HS.out _ hq))).el k hlt
      have e0 := sk.c0
      have e1 := sk.cp 0 _ rfl
      have e2 := sk.cp 1 _ rfl
      have e3 := sk.cp 2 _ rfl
      have e4 := sk.cp 3 _ rfl
      have e5 := sk.cp 4 _ rfl
      have e6 := sk.cp 5 _ rfl
      have e7 := sk.cp 6 _ rfl
      have ES : Hid (m.fs[k]? = some s) := se
      have QS : Hid (FlQ S wr s sx sy) := sq
      have OK : Hid (FlOk s) := HO.out s (List.mem_of_getElem? se)
      have TS : Hid _ := totK_succ se
      have LT : Hid (k < m.fs.length) := hlt
      have kl : (k : Int) < m.fs.length := by omega
      clear hbw se hlt sk sq
      have za := block_lt_of_cell e0
      have GA : Hid (∀ X : Obj, Below wr.heap.size wr (wr.alloc X)) := fun X => (Below.refl _ _).alloc (Nat.le_refl _) _
      obtain ⟨AR, eR⟩ : ∃ AR, AR = wr.alloc (.cells #[.string s.nm, .int .i64 s.wh, .int .i64 s.ce, .int .i64 s.ba, .int .i64 s.rg, .int .i64 s.sl, .slice sx s.os.length sc, .slice sy s.ls.length sd] 44 (0, 0)) := ⟨_, rfl⟩
      have RB : Hid (Below wr.heap.size wr AR) := by rw [eR]; exact GA.out _
      have RX : Hid (AR.heap[wr.heap.size]? = some (.cells #[.string s.nm, .int .i64 s.wh, .int .i64 s.ce, .int .i64 s.ba, .int .i64 s.rg, .int .i64 s.sl, .slice sx s.os.length sc, .slice sy s.ls.length sd] 44 (0, 0))) := by rw [eR]; exact heap_alloc_last _ _
      have CF : Hid (∀ V, Below AR.heap.size AR V → V.heap[wr.heap.size]? = some (.cells #[.string s.nm, .int .i64 s.wh, .int .i64 s.ce, .int .i64 s.ba, .int .i64 s.rg, .int .i64 s.sl, .slice sx s.os.length sc, .slice sy s.ls.length sd] 44 (0, 0)) ∧ V.heap[w.heap.size]? = some (.cells #[.string m.nm, .slice x1 m.cs.length p1, .slice (some a) m.fs.length p2, .slice x3 m.js.length p3] 26 (0, 0)) ∧ V.heap[w.heap.size + 1]? = some (.cells #[.int .i64 0, .int .i64 0, .int .i64 0] 72 (0, 0))) := fun V h => ⟨(h.block _ (blk_in RX.out)).trans RX.out, (h.block _ (Nat.lt_of_lt_of_le (blk_in HX.out) RB.out.size)).trans ((RB.out.block _ (blk_in HX.out)).trans HX.out), (h.block _ (Nat.lt_of_lt_of_le (blk_in HZ.out) RB.out.size)).trans ((RB.out.block _ (blk_in HZ.out)).trans HZ.out)⟩
      have BR : Hid (∀ V, Below AR.heap.size AR V → Below wr.heap.size wr V) := fun V h => RB.out.trans (h.mono RB.out.size)
      have BW : Hid (∀ V, Below AR.heap.size AR V → Below w.heap.size w V) := fun V h => HW.out.trans ((BR.out V h).mono HW.out.size)
      have SR : Hid (∀ V, Below AR.heap.size AR V → (∀ b, S b → b < V.heap.size) ∧ FlQ S V s sx sy) := fun V h => ⟨fun b hb => Nat.lt_of_lt_of_le (HS.out b hb) (BW.out V h).size, QS.out.fr (fun q hq => (BR.out V h).cell (Nat.lt_of_lt_of_le (HS.out _ hq) HW.out.size))⟩
      have N1 : Hid (∀ W, Calls Tryz.prog 49 #[.string s.nm] W fun e w' => e = .returned (.bool (nameB s.nm)) ∧ w' = W) := fun W => IsName_of s.nm W (sh_max OK.out.1)
      have C1 : Hid (∀ W, Calls Tryz.prog 51 #[FlV s sx sy sc sd, .int .i64 m.cs.length] W fun e w' => e = .returned (.bool (stB s m.cs.length)) ∧ Below W.heap.size W w') := fun W => mayStand_of s sx sy sc sd m.cs.length (by have := HN.out; omega) W
      have C2 : Hid (∀ V, Below AR.heap.size AR V → Calls Tryz.prog 52 #[FlV s sx sy sc sd] V fun e w' => e = .returned (.bool (enB s)) ∧ Below V.heap.size V w') := fun V h => mayEnd_of s sx sy sc sd V (SR.out V h).1 (SR.out V h).2.1
      have C3 : Hid (∀ V, Below AR.heap.size AR V → Calls Tryz.prog 53 #[FlV s sx sy sc sd] V fun e w' => e = .returned (.bool (lsB s)) ∧ Below V.heap.size V w') := fun V h => mayLoop_of s sx sy sc sd V (SR.out V h).1 (SR.out V h).2.2
      have FA : Hid (flAt m k = if nameB s.nm = false then ((0 : Int), (6 : Int)) else if (stB s m.cs.length && enB s && lsB s) = false then (0, 202) else if 16384 < totK m.fs k + s.os.length ∨ 16384 < s.ls.length then (0, 4) else opQ s m.fs.length) := by
        show flAt m k = _
        unfold flAt coB opQ
        rw [ES.out, TS.out.1]
        rfl
      have ew : wrap64 ((totK m.fs k : Int) + s.os.length) = ((totK m.fs k + s.os.length : Nat) : Int) := by have := HT.out; have := OK.out.2.2.2.2.2.2.2.2.1; unfold wrap64; omega
      go_upto_region 5 with fail
      rw [← eR]
      clear eR e0 e1 e2 e3 e4 e5 e6 e7 za GA
      obtain ⟨y1, y2, y3⟩ := CF.out AR (Below.refl _ _)
      have f0 : AR.cell? ⟨wr.heap.size, 0, none⟩ = some (.string s.nm) := by simp [World.cell?, y1]
      have f1 : AR.cell? ⟨wr.heap.size, 1, none⟩ = some (.int .i64 s.wh) := by simp [World.cell?, y1]
      have f2 : AR.cell? ⟨wr.heap.size, 2, none⟩ = some (.int .i64 s.ce) := by simp [World.cell?, y1]
      have f3 : AR.cell? ⟨wr.heap.size, 3, none⟩ = some (.int .i64 s.ba) := by simp [World.cell?, y1]
      have f4 : AR.cell? ⟨wr.heap.size, 4, none⟩ = some (.int .i64 s.rg) := by simp [World.cell?, y1]
      have f5 : AR.cell? ⟨wr.heap.size, 5, none⟩ = some (.int .i64 s.sl) := by simp [World.cell?, y1]
      have f6 : AR.cell? ⟨wr.heap.size, 6, none⟩ = some (.slice sx s.os.length sc) := by simp [World.cell?, y1]
      have f7 : AR.cell? ⟨wr.heap.size, 7, none⟩ = some (.slice sy s.ls.length sd) := by simp [World.cell?, y1]
      have m1 : AR.cell? ⟨w.heap.size, 1, none⟩ = some (.slice x1 m.cs.length p1) := by simp [World.cell?, y2]
      have m2 : AR.cell? ⟨w.heap.size, 2, none⟩ = some (.slice (some a) m.fs.length p2) := by simp [World.cell?, y2]
      generalize nameB s.nm = r0 at *
      go_wp2_with fail
      refine (N1.out _).mono ?_
      rintro e wN ⟨rfl, hN⟩
      rw [hN]
      clear hN wN
      cases r0
      · rw [if_pos rfl] at FA
        have ev : VV = .agg #[.int .i64 k, .int .i64 0, .int .i64 6] := by rw [← HV.out]; exact fl_some LT.out AL.out (FA.out) (by decide)
        have AN : Hid _ := ev
        have Z5 : Hid (AR.heap[w.heap.size + 1]? = some (.cells #[.int .i64 0, .int .i64 0, .int .i64 0] 72 (0, 0))) := (CF.out AR (Below.refl _ _)).2.2
        have B5 : Hid (Below w.heap.size w AR) := BW.out AR (Below.refl _ _)
        clear ev f0 f1 f2 f3 f4 f5 f6 f7 m1 m2 y1 y2 y3
        go_wp2_with (refine wpList_store_row rfl 72 _ _ rfl (w.heap.size + 1) _ rfl rfl _ _ Z5.out fw_info rfl (by kernel_rfl) ?_)
        refine bodyPost_ret (v := .agg #[.int .i64 k, .int .i64 0, .int .i64 6]) (results_cell_row Tryz.results23 _ _ (w.heap.size + 1) _ _ (0, 0) _ (by first | rfl | simp [Act.put]) (setRow_heap _ _ _ _ _ _ Z5.out) Tryz.underlying72 rfl fw_info) rfl ?_
        exact ⟨by rw [AN.out], row_below B5.out (by omega) _⟩
      rw [if_neg (show ¬ true = false by simp)] at FA
      go_wp2_with fail
      refine (C1.out _).mono ?_
      rintro e v1 ⟨rfl, hb1⟩
      have V1 : Hid (Below AR.heap.size AR v1) := hb1
      clear hb1 f0 f1 f2 f3 f4 f5 f6 f7 m1 m2 y1 y2 y3
      obtain ⟨y1, y2, y3⟩ := CF.out v1 V1.out
      have f0 : v1.cell? ⟨wr.heap.size, 0, none⟩ = some (.string s.nm) := by simp [World.cell?, y1]
      have f1 : v1.cell? ⟨wr.heap.size, 1, none⟩ = some (.int .i64 s.wh) := by simp [World.cell?, y1]
      have f2 : v1.cell? ⟨wr.heap.size, 2, none⟩ = some (.int .i64 s.ce) := by simp [World.cell?, y1]
      have f3 : v1.cell? ⟨wr.heap.size, 3, none⟩ = some (.int .i64 s.ba) := by simp [World.cell?, y1]
      have f4 : v1.cell? ⟨wr.heap.size, 4, none⟩ = some (.int .i64 s.rg) := by simp [World.cell?, y1]
      have f5 : v1.cell? ⟨wr.heap.size, 5, none⟩ = some (.int .i64 s.sl) := by simp [World.cell?, y1]
      have f6 : v1.cell? ⟨wr.heap.size, 6, none⟩ = some (.slice sx s.os.length sc) := by simp [World.cell?, y1]
      have f7 : v1.cell? ⟨wr.heap.size, 7, none⟩ = some (.slice sy s.ls.length sd) := by simp [World.cell?, y1]
      have m1 : v1.cell? ⟨w.heap.size, 1, none⟩ = some (.slice x1 m.cs.length p1) := by simp [World.cell?, y2]
      have m2 : v1.cell? ⟨w.heap.size, 2, none⟩ = some (.slice (some a) m.fs.length p2) := by simp [World.cell?, y2]
      have SB : Hid (stB s m.cs.length = true → (0 ≤ s.rg ∧ s.rg ≤ 8) ∧ (0 ≤ s.sl ∧ s.sl ≤ 1024)) := fun h => by
        unfold stB at h
        simp only [Bool.and_eq_true] at h
        exact ⟨inB_t h.1.2, inB_t h.2⟩
      generalize stB s m.cs.length = r1 at *
      cases r1
      · rw [Bool.false_and, Bool.false_and, if_pos rfl] at FA
        have ev : VV = .agg #[.int .i64 k, .int .i64 0, .int .i64 202] := by rw [← HV.out]; exact fl_some LT.out AL.out (FA.out) (by decide)
        have AN : Hid _ := ev
        have Z5 : Hid (v1.heap[w.heap.size + 1]? = some (.cells #[.int .i64 0, .int .i64 0, .int .i64 0] 72 (0, 0))) := (CF.out v1 V1.out).2.2
        have B5 : Hid (Below w.heap.size w v1) := BW.out v1 V1.out
        clear ev f0 f1 f2 f3 f4 f5 f6 f7 m1 m2 y1 y2 y3
        go_wp2_with (refine wpList_store_row rfl 72 _ _ rfl (w.heap.size + 1) _ rfl rfl _ _ Z5.out fw_info rfl (by kernel_rfl) ?_)
        refine bodyPost_ret (v := .agg #[.int .i64 k, .int .i64 0, .int .i64 202]) (results_cell_row Tryz.results23 _ _ (w.heap.size + 1) _ _ (0, 0) _ (by first | rfl | simp [Act.put]) (setRow_heap _ _ _ _ _ _ Z5.out) Tryz.underlying72 rfl fw_info) rfl ?_
        exact ⟨by rw [AN.out], row_below B5.out (by omega) _⟩
      go_wp2_with fail
      refine (C2.out _ V1.out).mono ?_
      rintro e v2 ⟨rfl, hb2⟩
      have V2 : Hid (Below AR.heap.size AR v2) := V1.out.trans (hb2.mono V1.out.size)
      clear hb2 f0 f1 f2 f3 f4 f5 f6 f7 m1 m2 y1 y2 y3
      obtain ⟨y1, y2, y3⟩ := CF.out v2 V2.out
      have f0 : v2.cell? ⟨wr.heap.size, 0, none⟩ = some (.string s.nm) := by simp [World.cell?, y1]
      have f1 : v2.cell? ⟨wr.heap.size, 1, none⟩ = some (.int .i64 s.wh) := by simp [World.cell?, y1]
      have f2 : v2.cell? ⟨wr.heap.size, 2, none⟩ = some (.int .i64 s.ce) := by simp [World.cell?, y1]
      have f3 : v2.cell? ⟨wr.heap.size, 3, none⟩ = some (.int .i64 s.ba) := by simp [World.cell?, y1]
      have f4 : v2.cell? ⟨wr.heap.size, 4, none⟩ = some (.int .i64 s.rg) := by simp [World.cell?, y1]
      have f5 : v2.cell? ⟨wr.heap.size, 5, none⟩ = some (.int .i64 s.sl) := by simp [World.cell?, y1]
      have f6 : v2.cell? ⟨wr.heap.size, 6, none⟩ = some (.slice sx s.os.length sc) := by simp [World.cell?, y1]
      have f7 : v2.cell? ⟨wr.heap.size, 7, none⟩ = some (.slice sy s.ls.length sd) := by simp [World.cell?, y1]
      have m1 : v2.cell? ⟨w.heap.size, 1, none⟩ = some (.slice x1 m.cs.length p1) := by simp [World.cell?, y2]
      have m2 : v2.cell? ⟨w.heap.size, 2, none⟩ = some (.slice (some a) m.fs.length p2) := by simp [World.cell?, y2]
      generalize enB s = r2 at *
      cases r2
      · rw [Bool.true_and, Bool.false_and, if_pos rfl] at FA
        have ev : VV = .agg #[.int .i64 k, .int .i64 0, .int .i64 202] := by rw [← HV.out]; exact fl_some LT.out AL.out (FA.out) (by decide)
        have AN : Hid _ := ev
        have Z5 : Hid (v2.heap[w.heap.size + 1]? = some (.cells #[.int .i64 0, .int .i64 0, .int .i64 0] 72 (0, 0))) := (CF.out v2 V2.out).2.2
        have B5 : Hid (Below w.heap.size w v2) := BW.out v2 V2.out
        clear ev f0 f1 f2 f3 f4 f5 f6 f7 m1 m2 y1 y2 y3
        go_wp2_with (refine wpList_store_row rfl 72 _ _ rfl (w.heap.size + 1) _ rfl rfl _ _ Z5.out fw_info rfl (by kernel_rfl) ?_)
        refine bodyPost_ret (v := .agg #[.int .i64 k, .int .i64 0, .int .i64 202]) (results_cell_row Tryz.results23 _ _ (w.heap.size + 1) _ _ (0, 0) _ (by first | rfl | simp [Act.put]) (setRow_heap _ _ _ _ _ _ Z5.out) Tryz.underlying72 rfl fw_info) rfl ?_
        exact ⟨by rw [AN.out], row_below B5.out (by omega) _⟩
      go_wp2_with fail
      refine (C3.out _ V2.out).mono ?_
      rintro e v3 ⟨rfl, hb3⟩
      have V3 : Hid (Below AR.heap.size AR v3) := V2.out.trans (hb3.mono V2.out.size)
      clear hb3 f0 f1 f2 f3 f4 f5 f6 f7 m1 m2 y1 y2 y3
      obtain ⟨y1, y2, y3⟩ := CF.out v3 V3.out
      have f0 : v3.cell? ⟨wr.heap.size, 0, none⟩ = some (.string s.nm) := by simp [World.cell?, y1]
      have f1 : v3.cell? ⟨wr.heap.size, 1, none⟩ = some (.int .i64 s.wh) := by simp [World.cell?, y1]
      have f2 : v3.cell? ⟨wr.heap.size, 2, none⟩ = some (.int .i64 s.ce) := by simp [World.cell?, y1]
      have f3 : v3.cell? ⟨wr.heap.size, 3, none⟩ = some (.int .i64 s.ba) := by simp [World.cell?, y1]
      have f4 : v3.cell? ⟨wr.heap.size, 4, none⟩ = some (.int .i64 s.rg) := by simp [World.cell?, y1]
      have f5 : v3.cell? ⟨wr.heap.size, 5, none⟩ = some (.int .i64 s.sl) := by simp [World.cell?, y1]
      have f6 : v3.cell? ⟨wr.heap.size, 6, none⟩ = some (.slice sx s.os.length sc) := by simp [World.cell?, y1]
      have f7 : v3.cell? ⟨wr.heap.size, 7, none⟩ = some (.slice sy s.ls.length sd) := by simp [World.cell?, y1]
      have m1 : v3.cell? ⟨w.heap.size, 1, none⟩ = some (.slice x1 m.cs.length p1) := by simp [World.cell?, y2]
      have m2 : v3.cell? ⟨w.heap.size, 2, none⟩ = some (.slice (some a) m.fs.length p2) := by simp [World.cell?, y2]
      generalize lsB s = r3 at *
      cases r3
      · rw [Bool.true_and, Bool.true_and, if_pos rfl] at FA
        have ev : VV = .agg #[.int .i64 k, .int .i64 0, .int .i64 202] := by rw [← HV.out]; exact fl_some LT.out AL.out (FA.out) (by decide)
        have AN : Hid _ := ev
        have Z5 : Hid (v3.heap[w.heap.size + 1]? = some (.cells #[.int .i64 0, .int .i64 0, .int .i64 0] 72 (0, 0))) := (CF.out v3 V3.out).2.2
        have B5 : Hid (Below w.heap.size w v3) := BW.out v3 V3.out
        clear ev f0 f1 f2 f3 f4 f5 f6 f7 m1 m2 y1 y2 y3
        go_wp2_with (refine wpList_store_row rfl 72 _ _ rfl (w.heap.size + 1) _ rfl rfl _ _ Z5.out fw_info rfl (by kernel_rfl) ?_)
        refine bodyPost_ret (v := .agg #[.int .i64 k, .int .i64 0, .int .i64 202]) (results_cell_row Tryz.results23 _ _ (w.heap.size + 1) _ _ (0, 0) _ (by first | rfl | simp [Act.put]) (setRow_heap _ _ _ _ _ _ Z5.out) Tryz.underlying72 rfl fw_info) rfl ?_
        exact ⟨by rw [AN.out], row_below B5.out (by omega) _⟩
      rw [Bool.true_and, Bool.true_and, if_neg (show ¬ true = false by simp)] at FA
      by_cases t1 : 16384 < totK m.fs k + s.os.length
      · have t2 : (16384 : Int) < (totK m.fs k : Int) + (s.os.length : Int) := by omega
        rw [if_pos (Or.inl t1)] at FA
        clear t1
        have ev : VV = .agg #[.int .i64 k, .int .i64 0, .int .i64 4] := by rw [← HV.out]; exact fl_some LT.out AL.out (FA.out) (by decide)
        have AN : Hid _ := ev
        have Z5 : Hid (v3.heap[w.heap.size + 1]? = some (.cells #[.int .i64 0, .int .i64 0, .int .i64 0] 72 (0, 0))) := (CF.out v3 V3.out).2.2
        have B5 : Hid (Below w.heap.size w v3) := BW.out v3 V3.out
        clear ev f0 f1 f2 f3 f4 f5 f6 f7 m1 m2 y1 y2 y3
        go_wp2_with (refine wpList_store_row rfl 72 _ _ rfl (w.heap.size + 1) _ rfl rfl _ _ Z5.out fw_info rfl (by kernel_rfl) ?_)
        refine bodyPost_ret (v := .agg #[.int .i64 k, .int .i64 0, .int .i64 4]) (results_cell_row Tryz.results23 _ _ (w.heap.size + 1) _ _ (0, 0) _ (by first | rfl | simp [Act.put]) (setRow_heap _ _ _ _ _ _ Z5.out) Tryz.underlying72 rfl fw_info) rfl ?_
        exact ⟨by rw [AN.out], row_below B5.out (by omega) _⟩
      have t2 : ¬ (16384 : Int) < (totK m.fs k : Int) + (s.os.length : Int) := by omega
      by_cases t3 : 16384 < s.ls.length
      · have t4 : (16384 : Int) < (s.ls.length : Int) := by omega
        rw [if_pos (Or.inr t3)] at FA
        clear t1 t3
        have ev : VV = .agg #[.int .i64 k, .int .i64 0, .int .i64 4] := by rw [← HV.out]; exact fl_some LT.out AL.out (FA.out) (by decide)
        have AN : Hid _ := ev
        have Z5 : Hid (v3.heap[w.heap.size + 1]? = some (.cells #[.int .i64 0, .int .i64 0, .int .i64 0] 72 (0, 0))) := (CF.out v3 V3.out).2.2
        have B5 : Hid (Below w.heap.size w v3) := BW.out v3 V3.out
        clear ev f0 f1 f2 f3 f4 f5 f6 m1 m2 y1 y2 y3
        go_wp2_with (refine wpList_store_row rfl 72 _ _ rfl (w.heap.size + 1) _ rfl rfl _ _ Z5.out fw_info rfl (by kernel_rfl) ?_)
        refine bodyPost_ret (v := .agg #[.int .i64 k, .int .i64 0, .int .i64 4]) (results_cell_row Tryz.results23 _ _ (w.heap.size + 1) _ _ (0, 0) _ (by first | rfl | simp [Act.put]) (setRow_heap _ _ _ _ _ _ Z5.out) Tryz.underlying72 rfl fw_info) rfl ?_
        exact ⟨by rw [AN.out], row_below B5.out (by omega) _⟩
      have t4 : ¬ (16384 : Int) < (s.ls.length : Int) := by omega
      rw [if_neg (show ¬ (16384 < totK m.fs k + s.os.length ∨ 16384 < s.ls.length) by omega)] at FA
      go_wp2_with fail
      have TB : Hid (totK m.fs k + s.os.length ≤ 16384) := by show _ ≤ _; omega
      clear f0 f1 f2 f3 f4 f5 f6 f7 m1 m2 y1 y2 y3 t1 t2 t3 t4 N1 C1 C2 C3
      obtain ⟨WO, eO⟩ : ∃ W, W = wr := ⟨_, rfl⟩
      subst eO
      go_loopw [61] (fun i wr => ∃ p : Nat, p ≤ s.os.length ∧ i = .int .i64 p ∧ Below AR.heap.size AR wr ∧ ∀ j, j < p → opAt s m.fs.length j = true) (fun i _ => s.os.length - (intOf i).toNat)
      case atStart => exact ⟨0, Nat.zero_le _, rfl, V3.out, fun j hj => absurd hj (Nat.not_lt_zero _)⟩
      case round =>
        obtain ⟨p, hp, rfl, hbp, hal⟩ := hrel
        have VP : Hid (Below AR.heap.size AR wr) := hbp
        have AP : Hid (∀ j, j < p → opAt s m.fs.length j = true) := hal
        clear hbp hal
        by_cases plt : p < s.os.length
        · obtain ⟨d, rfl⟩ := QS.out.1.some (by omega)
          obtain ⟨o, ov, oe, _, rfl, ok⟩ := (SR.out wr VP.out).2.1.el p plt
          have g0 := ok.c0
          have g1 := ok.cp 0 _ rfl
          have g2 := ok.cp 1 _ rfl
          have g3 := ok.cp 2 _ rfl
          have g4 := ok.cp 3 _ rfl
          have g5 := ok.cp 4 _ rfl
          have g6 := ok.cp 5 _ rfl
          have g7 := ok.cp 6 _ rfl
          have g8 := ok.cp 7 _ rfl
          have g9 := ok.cp 8 _ rfl
          have OE : Hid (s.os[p]? = some o) := oe
          have OO : Hid (OpOk o) := OK.out.2.2.2.2.2.2.1 o (List.mem_of_getElem? oe)
          have PL : Hid (p < s.os.length) := plt
          have pl : (p : Int) < s.os.length := by omega
          have M1 : Hid (∀ W, Calls Tryz.prog 54 #[OpV o, FlV s (some d) sy sc sd, .int .i64 m.fs.length] W fun e w' => e = .returned (.bool (opB o s.rg s.sl s.os.length m.fs.length)) ∧ Below W.heap.size W w') := fun W => mayDo_of o s (some d) sy sc sd m.fs.length W OO.out (SB.out trivial).1 (SB.out trivial).2 OK.out.2.2.2.2.2.2.2.2.1 ⟨by omega, by have := HM.out; omega⟩
          have OA : Hid (opAt s m.fs.length p = opB o s.rg s.sl s.os.length m.fs.length) := by
            show _ = _
            unfold opAt
            rw [OE.out]
          clear plt oe ok
          have zg := block_lt_of_cell g0
          obtain ⟨AO, eP⟩ : ∃ AO, AO = wr.alloc (.cells #[.int .i64 o.cd, .int .i64 o.a, .int .i64 o.b, .int .i64 o.c, .int .i64 o.d, .int .i64 o.lo, .int .i64 o.hi, .int .u8 o.vk, .int .u64 o.vb, .string o.vs] 46 (0, 0)) := ⟨_, rfl⟩
          have PB : Hid (Below wr.heap.size wr AO) := by rw [eP]; exact (Below.refl _ _).alloc (Nat.le_refl _) _
          have PX : AO.heap[wr.heap.size]? = some (.cells #[.int .i64 o.cd, .int .i64 o.a, .int .i64 o.b, .int .i64 o.c, .int .i64 o.d, .int .i64 o.lo, .int .i64 o.hi, .int .u8 o.vk, .int .u64 o.vb, .string o.vs] 46 (0, 0)) := by rw [eP]; exact heap_alloc_last _ _
          go_upto_region 15 with fail
          rw [← eP]
          clear eP g0 g1 g2 g3 g4 g5 g6 g7 g8 g9 zg
          have V4 : Hid (Below AR.heap.size AR AO) := VP.out.trans (PB.out.mono VP.out.size)
          obtain ⟨y1, y2, y3⟩ := CF.out AO V4.out
          have f0 : AO.cell? ⟨WO.heap.size, 0, none⟩ = some (.string s.nm) := by simp [World.cell?, y1]
          have f1 : AO.cell? ⟨WO.heap.size, 1, none⟩ = some (.int .i64 s.wh) := by simp [World.cell?, y1]
          have f2 : AO.cell? ⟨WO.heap.size, 2, none⟩ = some (.int .i64 s.ce) := by simp [World.cell?, y1]
          have f3 : AO.cell? ⟨WO.heap.size, 3, none⟩ = some (.int .i64 s.ba) := by simp [World.cell?, y1]
          have f4 : AO.cell? ⟨WO.heap.size, 4, none⟩ = some (.int .i64 s.rg) := by simp [World.cell?, y1]
          have f5 : AO.cell? ⟨WO.heap.size, 5, none⟩ = some (.int .i64 s.sl) := by simp [World.cell?, y1]
          have f6 : AO.cell? ⟨WO.heap.size, 6, none⟩ = some (.slice (some d) s.os.length sc) := by simp [World.cell?, y1]
          have f7 : AO.cell? ⟨WO.heap.size, 7, none⟩ = some (.slice sy s.ls.length sd) := by simp [World.cell?, y1]
          have m1 : AO.cell? ⟨w.heap.size, 1, none⟩ = some (.slice x1 m.cs.length p1) := by simp [World.cell?, y2]
          have m2 : AO.cell? ⟨w.heap.size, 2, none⟩ = some (.slice (some a) m.fs.length p2) := by simp [World.cell?, y2]
          have g0 : AO.cell? ⟨wr.heap.size, 0, none⟩ = some (.int .i64 o.cd) := by simp [World.cell?, PX]
          have g1 : AO.cell? ⟨wr.heap.size, 1, none⟩ = some (.int .i64 o.a) := by simp [World.cell?, PX]
          have g2 : AO.cell? ⟨wr.heap.size, 2, none⟩ = some (.int .i64 o.b) := by simp [World.cell?, PX]
          have g3 : AO.cell? ⟨wr.heap.size, 3, none⟩ = some (.int .i64 o.c) := by simp [World.cell?, PX]
          have g4 : AO.cell? ⟨wr.heap.size, 4, none⟩ = some (.int .i64 o.d) := by simp [World.cell?, PX]
          have g5 : AO.cell? ⟨wr.heap.size, 5, none⟩ = some (.int .i64 o.lo) := by simp [World.cell?, PX]
          have g6 : AO.cell? ⟨wr.heap.size, 6, none⟩ = some (.int .i64 o.hi) := by simp [World.cell?, PX]
          have g7 : AO.cell? ⟨wr.heap.size, 7, none⟩ = some (.int .u8 o.vk) := by simp [World.cell?, PX]
          have g8 : AO.cell? ⟨wr.heap.size, 8, none⟩ = some (.int .u64 o.vb) := by simp [World.cell?, PX]
          have g9 : AO.cell? ⟨wr.heap.size, 9, none⟩ = some (.string o.vs) := by simp [World.cell?, PX]
          generalize opB o s.rg s.sl s.os.length m.fs.length = r4 at *
          go_wp2_with fail
          refine (M1.out _).mono ?_
          rintro e v5 ⟨rfl, hb5⟩
          have V5 : Hid (Below AR.heap.size AR v5) := V4.out.trans (hb5.mono V4.out.size)
          clear hb5 f0 f1 f2 f3 f4 f5 f6 f7 m1 m2 y1 y2 y3 PX g0 g1 g2 g3 g4 g5 g6 g7 g8 g9
          cases r4
          · have QA : Hid (flAt m k = ((p : Int), (202 : Int))) := by
              show _ = _
              rw [FA.out]
              unfold opQ
              rw [fstN_some PL.out AP.out OA.out]
            have ev : VV = .agg #[.int .i64 k, .int .i64 p, .int .i64 202] := by rw [← HV.out]; exact fl_some LT.out AL.out (QA.out) (by decide)
            have AN : Hid _ := ev
            have Z5 : Hid (v5.heap[w.heap.size + 1]? = some (.cells #[.int .i64 0, .int .i64 0, .int .i64 0] 72 (0, 0))) := (CF.out v5 V5.out).2.2
            have B5 : Hid (Below w.heap.size w v5) := BW.out v5 V5.out
            clear ev PL
            go_wp2_with (refine wpList_store_row rfl 72 _ _ rfl (w.heap.size + 1) _ rfl rfl _ _ Z5.out fw_info rfl (by kernel_rfl) ?_)
            refine bodyPost_ret (v := .agg #[.int .i64 k, .int .i64 p, .int .i64 202]) (results_cell_row Tryz.results23 _ _ (w.heap.size + 1) _ _ (0, 0) _ (by first | rfl | simp [Act.put]) (setRow_heap _ _ _ _ _ _ Z5.out) Tryz.underlying72 rfl fw_info) rfl ?_
            exact ⟨by rw [AN.out], row_below B5.out (by omega) _⟩
          · have ep : wrap64 ((p : Int) + 1) = (p : Int) + 1 := by have := TB.out; have := PL.out; unfold wrap64; omega
            go_wp2
            try rw [ep]
            exact ⟨⟨p + 1, Nat.succ_le_of_lt PL.out, rfl, V5.out, fun j hj => by
              rcases Nat.lt_succ_iff_lt_or_eq.1 hj with h | rfl
              · exact AP.out j h
              · exact OA.out⟩, msr PL.out⟩
        · have pl : ¬ (p : Int) < s.os.length := by omega
          have ep : p = s.os.length := by omega
          subst ep
          have QA : Hid ((flAt m k).2 = 0) := by
            show _ = _
            rw [FA.out]
            unfold opQ
            rw [fstN_none AP.out]
          have ek : wrap64 ((k : Int) + 1) = (k : Int) + 1 := by have := HM.out; have := LT.out; unfold wrap64; omega
          clear hp plt
          go_wp2
          rw [ek]
          refine ⟨⟨k + 1, Nat.succ_le_of_lt LT.out, rfl, ?_, ?_, BW.out _ VP.out, (CF.out _ VP.out).2.1, (CF.out _ VP.out).2.2, fun j hj => ?_⟩, msr LT.out⟩
          · rw [TS.out.2]; simp
          · rw [TS.out.2]; exact TB.out
          · rcases Nat.lt_succ_iff_lt_or_eq.1 hj with h | rfl
            · exact AL.out j h
            · exact QA.out
    · have kl : ¬ (k : Int) < m.fs.length := by omega
      have ek : k = m.fs.length := by omega
      subst ek
      have ev : VV = .agg #[.int .i64 0, .int .i64 0, .int .i64 0] := by rw [← HV.out]; exact fl_none AL.out
      have AN : Hid _ := ev
      clear ev hbw hlt
      go_wp2_with (refine wpList_store_row rfl 72 _ _ rfl (w.heap.size + 1) _ rfl rfl _ _ HZ.out fw_info rfl (by kernel_rfl) ?_)
      refine bodyPost_ret (v := .agg #[.int .i64 0, .int .i64 0, .int .i64 0]) (results_cell_row Tryz.results23 _ _ (w.heap.size + 1) _ _ (0, 0) _ (by first | rfl | simp [Act.put]) (setRow_heap _ _ _ _ _ _ HZ.out) Tryz.underlying72 rfl fw_info) rfl ?_
      exact ⟨by rw [AN.out], row_below HW.out (by omega) _⟩
end Go.Proofs.YtdcjngakmkgbmaaGreat
