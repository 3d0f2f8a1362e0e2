/- Two images compared; no statement of the seat is proved here. -/
import Derived.Test.YtahgnmbkobiclaaGreatJnA6
import Derived.Test.YtahgnmbkobiclaaGreatJnA5
import Derived.Laws.BytesArg
import Derived.Test.YtahgnmbkobiclaaGreatJnA4
namespace Go.Proofs.YtahgnmbkobiclaaGreat
set_option linter.unusedVariables false
open Go.RowKit
/-- The addresses that the first cells have. -/
def setL (l : List CeR) (k : Nat) : List ByteArray := ((l.take k).filter (fun c => !emB c.ad)).map (·.ad)
theorem setL_any (l : List CeR) (k : Nat) (s : ByteArray) : (setL l k).any (fun x => decide (x = s)) = !(emB s || (l.take k).all (fun x => decide (¬ x.ad = s))) := by
  unfold setL
  generalize l.take k = t
  induction t with
  | nil => simp
  | cons c t ih =>
    cases q : emB c.ad
    · simp only [List.filter_cons, q, Bool.not_false, if_pos, List.map_cons, List.any_cons, ih, List.all_cons]
      by_cases e : c.ad = s
      · subst e
        simp [q]
      · simp [e]
    · simp only [List.filter_cons, q, Bool.not_true, List.all_cons]
      rw [if_neg (by simp), ih]
      by_cases e : c.ad = s
      · subst e
        simp [q]
      · simp [e]
theorem setL_yes (l : List CeR) (k : Nat) (c : CeR) (h : l[k]? = some c) (he : emB c.ad = false) : setL l (k + 1) = setL l k ++ [c.ad] := by
  unfold setL
  rw [List.take_add_one, h]
  simp [he]
theorem setL_no (l : List CeR) (k : Nat) (c : CeR) (h : l[k]? = some c) (he : emB c.ad = true) : setL l (k + 1) = setL l k := by
  unfold setL
  rw [List.take_add_one, h]
  simp [he]
theorem tw_at (w2 : World) (X Y : Obj) : ((w2.alloc X).alloc Y).heap[w2.heap.size]? = some X ∧ ((w2.alloc X).alloc Y).heap[w2.heap.size + 1]? = some Y := by
  have q := heap_alloc_last (w2.alloc X) Y
  rw [show (w2.alloc X).heap.size = w2.heap.size + 1 by simp] at q
  exact ⟨(Below.heap_alloc _ _ _ (by simp)).trans (heap_alloc_last _ _), q⟩
theorem fw_info : (Tryz.prog.info? 69).map (·.size) = some 3 := by kernel_rfl
theorem row_below {w wr : World} (h : Below w.heap.size w wr) {g : Nat} (hg : w.heap.size ≤ g) (cs : Array Value) : Below w.heap.size w (wr.setRow g cs) :=
  h.trans ⟨rfl, rfl, rfl, by simp [World.setRow], fun k hk => setRow_other _ _ _ _ (by omega)⟩
/-- What a look at all cells answers. -/
def fwV (o : Option Nat) (e : Int) : Value := match o with
  | some i => .agg #[.int .i64 i, .int .i64 0, .int .i64 e]
  | none => .agg #[.int .i64 0, .int .i64 0, .int .i64 0]
set_option maxRecDepth 20000 in
set_option maxHeartbeats 8000000 in
theorem cellFlaw_of (m : ImR) (x1 x2 x3 : Option Addr) (p1 p2 p3 : Nat) (w : World) {S : Nat → Prop} (hS : ∀ b, S b → b < w.heap.size) (ha : RwF 11 (Is ceC) S w x1 m.cs) (ho : ∀ c ∈ m.cs, CeOk c) :
    Calls Tryz.prog 24 #[.agg #[.string m.nm, .slice x1 m.cs.length p1, .slice x2 m.fs.length p2, .slice x3 m.js.length p3]] w fun e w' => e = .returned (fwV (fstN (ceAt m.cs) m.cs.length) 203) ∧ Below w.heap.size w w' := by
  have HA : Hid (RwF 11 (Is ceC) S w x1 m.cs) := ha
  have HS : Hid (∀ b, S b → b < w.heap.size) := hS
  have HO : Hid (∀ c ∈ m.cs, CeOk c) := ho
  clear ha hS ho
  generalize hv : fwV (fstN (ceAt m.cs) m.cs.length) 203 = VV
  have HV : Hid (fwV (fstN (ceAt m.cs) m.cs.length) 203 = VV) := hv
  clear hv
  have mm := mk_map
  obtain ⟨AW, eW⟩ : ∃ AW, AW = ((w.alloc (.cells #[.string m.nm, .slice x1 m.cs.length p1, .slice x2 m.fs.length p2, .slice x3 m.js.length p3] 28 (0, 0))).alloc (.cells #[.int .i64 0, .int .i64 0, .int .i64 0] 69 (0, 0))).alloc (.map #[] 0) := ⟨_, rfl⟩
  have AB : Hid (Below w.heap.size w AW) := by rw [eW]; exact (((Below.refl _ _).alloc (Nat.le_refl _) _).alloc (by simp) _).alloc (by simp; omega) _
  have AZ : Hid (AW.heap[w.heap.size + 1]? = some (.cells #[.int .i64 0, .int .i64 0, .int .i64 0] 69 (0, 0))) := by rw [eW]; exact (Below.heap_alloc _ _ _ (by simp)).trans (tw_at w _ _).2
  have AX : Hid (AW.heap[w.heap.size]? = some (.cells #[.string m.nm, .slice x1 m.cs.length p1, .slice x2 m.fs.length p2, .slice x3 m.js.length p3] 28 (0, 0))) := by rw [eW]; exact (Below.heap_alloc _ _ _ (by simp; omega)).trans (tw_at w _ _).1
  have AM : Hid (SetS AW (w.heap.size + 1 + 1) 0 []) := by rw [eW]; have := SetS.made ((w.alloc (.cells #[.string m.nm, .slice x1 m.cs.length p1, .slice x2 m.fs.length p2, .slice x3 m.js.length p3] 28 (0, 0))).alloc (.cells #[.int .i64 0, .int .i64 0, .int .i64 0] 69 (0, 0))); simp only [World.size_alloc] at this; exact this
  have sl := blk_in AX.out
  have b1 : AW.cell? ⟨w.heap.size, 1, none⟩ = some (.slice x1 m.cs.length p1) := by simp [World.cell?, AX.out]
  go_enter Tryz.func24, Tryz.ntmps24
  go_upto_region 2 with fail
  rw [← eW]
  clear eW mm AX
  go_wp2_with fail
  go_loopw [12] (fun i wr => ∃ k : Nat, k ≤ m.cs.length ∧ i = .int .i64 k ∧ Below w.heap.size w wr ∧ wr.heap[w.heap.size + 1]? = some (.cells #[.int .i64 0, .int .i64 0, .int .i64 0] 69 (0, 0)) ∧ (∃ n, n ≤ k ∧ SetS wr (w.heap.size + 1 + 1) n (setL m.cs k)) ∧ ∀ j, j < k → ceAt m.cs j = true) (fun i _ => m.cs.length - (intOf i).toNat)
  case atStart => exact ⟨0, Nat.zero_le _, rfl, AB.out, AZ.out, ⟨0, Nat.le_refl _, AM.out⟩, fun j hj => absurd hj (Nat.not_lt_zero _)⟩
  case round =>
    obtain ⟨k, hk, rfl, hbw, hz, ⟨n, hn, hm⟩, hall⟩ := hrel
    have HW : Hid (Below w.heap.size w wr) := hbw
    have HZ : Hid (wr.heap[w.heap.size + 1]? = some (.cells #[.int .i64 0, .int .i64 0, .int .i64 0] 69 (0, 0))) := hz
    have HM : Hid (SetS wr (w.heap.size + 1 + 1) n (setL m.cs k)) := hm
    have HN : Hid (n ≤ k) := hn
    have AL : Hid (∀ j, j < k → ceAt m.cs j = true) := hall
    clear hz hm hn hall
    by_cases hlt : k < m.cs.length
    · obtain ⟨a, rfl⟩ := HA.out.some (by omega)
      obtain ⟨s, sv, se, _, rfl, sk⟩ := (HA.out.fr (w' := wr) (fun q hq => hbw.cell (HS.out _ hq))).el k hlt
      have e0 := sk.c0
      have e1 := sk.cp 0 _ rfl
      have e2 := sk.cp 1 _ rfl
      have e3 := sk.cp 2 _ rfl
      have e4 := sk.cp 3 _ rfl
      have e5 := sk.cp 4 _ rfl
      have e6 := sk.cp 5 _ rfl
      have e7 := sk.cp 6 _ rfl
      have e8 := sk.cp 7 _ rfl
      have e9 := sk.cp 8 _ rfl
      have e10 := sk.cp 9 _ rfl
      have ES : Hid (m.cs[k]? = some s) := se
      have OK : Hid (CeOk s) := HO.out s (List.mem_of_getElem? se)
      have LT : Hid (k < m.cs.length) := hlt
      have kl : (k : Int) < m.cs.length := by omega
      clear hbw se hlt sk
      have za := block_lt_of_cell e0
      have zm := HM.out.lt
      have CA : Hid (ceAt m.cs k = (ceB s && !((setL m.cs k).any (fun x => decide (x = s.ad))))) := by
        show _ = _
        rw [setL_any, Bool.not_not]
        unfold ceAt
        rw [ES.out]
      have KY := keyS s.ad (sh_max OK.out.2.2.2.2.2.2.2.2)
      have GA : Hid (∀ X : Obj, Below wr.heap.size wr (wr.alloc X)) := fun X => (Below.refl _ _).alloc (Nat.le_refl _) _
      have G2 : Hid (∀ X Y : Obj, Below wr.heap.size wr ((wr.alloc X).alloc Y)) := fun X Y => ((Below.refl _ _).alloc (Nat.le_refl _) _).alloc (by simp) _
      cases q : (setL m.cs k).any (fun x => decide (x = s.ad))
      case true =>
        have QQ : Hid _ := q
        rw [q, Bool.not_true, Bool.and_false] at CA
        clear q
        have ans : VV = .agg #[.int .i64 k, .int .i64 0, .int .i64 203] := by rw [← HV.out, fstN_some LT.out AL.out CA.out]; rfl
        have AN : Hid _ := ans
        clear ans
        have ZZ : Hid (∀ X Y : Obj, ((wr.alloc X).alloc Y).heap[w.heap.size + 1]? = some (.cells #[.int .i64 0, .int .i64 0, .int .i64 0] 69 (0, 0))) := fun X Y => ((G2.out X Y).block _ (blk_in HZ.out)).trans HZ.out
        go_wp2_with (first | (at_lookup; obtain ⟨D, h1, h2⟩ := HM.out.below (GA.out (.cells #[.int .u8 s.kd, .bool s.sb, .int .i64 s.lo, .int .i64 s.hi, .int .i64 s.mx, .int .u8 s.ik, .int .u64 s.ib, .string s.is, .bool s.kp, .int .i64 s.dr, .string s.ad] 50 (0, 0))); refine wpList_lookup_own_unit _ rfl _ _ 99 rfl 9 100 (Maps.string_keyed Tryz.underlying9) Tryz.underlying99 (zeroU _) (w.heap.size + 1 + 1) n D rfl h1 _ _ rfl KY ?_; rw [h2 s.ad, QQ.out]; clear h1 h2 D) | (refine wpList_store_row rfl 69 _ _ rfl (w.heap.size + 1) _ rfl rfl _ _ (ZZ.out _ _) fw_info rfl (by kernel_rfl) ?_))
        refine bodyPost_ret (v := .agg #[.int .i64 k, .int .i64 0, .int .i64 203]) (results_cell_row Tryz.results24 _ _ (w.heap.size + 1) _ _ (0, 0) _ (by first | rfl | simp [Act.put]) (setRow_heap _ _ _ _ _ _ (ZZ.out _ _)) Tryz.underlying69 rfl fw_info) rfl ?_
        exact ⟨by rw [AN.out], row_below (HW.out.trans ((G2.out _ _).mono HW.out.size)) (by omega) _⟩
      case false =>
        have QQ : Hid _ := q
        rw [q, Bool.not_false, Bool.and_true] at CA
        clear q
        have M1 : Hid (∀ W, Calls Tryz.prog 52 #[CeV s] W fun e w' => e = .returned (.bool (ceB s)) ∧ Below W.heap.size W w') := fun W => mayCell_of s OK.out W
        go_wp2_with ((at_lookup; obtain ⟨D, h1, h2⟩ := HM.out.below (GA.out (.cells #[.int .u8 s.kd, .bool s.sb, .int .i64 s.lo, .int .i64 s.hi, .int .i64 s.mx, .int .u8 s.ik, .int .u64 s.ib, .string s.is, .bool s.kp, .int .i64 s.dr, .string s.ad] 50 (0, 0))); refine wpList_lookup_own_unit _ rfl _ _ 99 rfl 9 100 (Maps.string_keyed Tryz.underlying9) Tryz.underlying99 (zeroU _) (w.heap.size + 1 + 1) n D rfl h1 _ _ rfl KY ?_; rw [h2 s.ad, QQ.out]; clear h1 h2 D))
        refine (M1.out _).mono ?_
        rintro e w5 ⟨rfl, hb⟩
        have B5 : Hid (Below wr.heap.size wr w5) := bl_tr (G2.out _ _) hb
        have X5 := (hb.block wr.heap.size (by simp; omega)).trans (tw_at wr _ _).1
        have Z5 : Hid (w5.heap[w.heap.size + 1]? = some (.cells #[.int .i64 0, .int .i64 0, .int .i64 0] 69 (0, 0))) := (B5.out.block _ (blk_in HZ.out)).trans HZ.out
        have S5 : Hid (SetS w5 (w.heap.size + 1 + 1) n (setL m.cs k)) := HM.out.below B5.out
        have k10 : w5.cell? ⟨wr.heap.size, 10, none⟩ = some (.string s.ad) := by simp [World.cell?, X5]
        clear hb X5 e0 e1 e2 e3 e4 e5 e6 e7 e8 e9 e10 za zm GA
        generalize ceB s = r at *
        cases r
        · have ans : VV = .agg #[.int .i64 k, .int .i64 0, .int .i64 203] := by rw [← HV.out, fstN_some LT.out AL.out CA.out]; rfl
          have AN : Hid _ := ans
          clear ans
          go_wp2_with (refine wpList_store_row rfl 69 _ _ rfl (w.heap.size + 1) _ rfl rfl _ _ Z5.out fw_info rfl (by kernel_rfl) ?_)
          refine bodyPost_ret (v := .agg #[.int .i64 k, .int .i64 0, .int .i64 203]) (results_cell_row Tryz.results24 _ _ (w.heap.size + 1) _ _ (0, 0) _ (by first | rfl | simp [Act.put]) (setRow_heap _ _ _ _ _ _ Z5.out) Tryz.underlying69 rfl fw_info) rfl ?_
          exact ⟨by rw [AN.out], row_below (HW.out.trans (B5.out.mono HW.out.size)) (by omega) _⟩
        · have ew : wrap64 ((k : Int) + 1) = (k : Int) + 1 := by have := HA.out.1; have := LT.out; unfold wrap64; omega
          have NX : Hid (∀ j, j < k + 1 → ceAt m.cs j = true) := fun j hj => by
            rcases Nat.lt_succ_iff_lt_or_eq.1 hj with h | rfl
            · exact AL.out j h
            · exact CA.out
          cases q : emB s.ad
          · have q1 : s.ad.toList.isEmpty = false := q
            have SY : Hid (setL m.cs (k + 1) = setL m.cs k ++ [s.ad]) := setL_yes m.cs k s ES.out q
            clear q
            go_wp2_with (at_mapUpdate; obtain ⟨D, h1, h2⟩ := S5.out; refine wpList_mapUpdate_own _ rfl _ _ _ 99 rfl 9 100 (Maps.string_keyed Tryz.underlying9) Tryz.underlying99 unitElem (w.heap.size + 1 + 1) n D rfl h1 (by have := HN.out; have := LT.out; have := HA.out.1; simp [maxLen]; omega) _ _ (.string s.ad.data.toList) rfl rfl KY (.agg []) [] unitElem_mk ?_; intro w7 t1 t2; have T1 : Hid (SetS w7 (w.heap.size + 1 + 1) (n + 1) (setL m.cs k ++ [s.ad])) := SetS.put h1 h2 s.ad t1; have T2 : Hid _ := t2; clear t1 t2 h1 h2 D)
            rw [ew]
            refine ⟨⟨k + 1, Nat.succ_le_of_lt LT.out, rfl, ?_, ?_, ⟨n + 1, Nat.succ_le_succ HN.out, by rw [SY.out]; exact T1.out⟩, NX.out⟩, msr LT.out⟩
            · exact (HW.out.trans (B5.out.mono HW.out.size)).grown T2.out (Nat.le_trans HW.out.size B5.out.size) (fun g e => by cases e; omega)
            · exact (T2.out.block _ (blk_in Z5.out) (by simp)).trans Z5.out
          · have q1 : s.ad.toList.isEmpty = true := q
            have SY : Hid (setL m.cs (k + 1) = setL m.cs k) := setL_no m.cs k s ES.out q
            clear q
            go_wp2
            rw [ew]
            exact ⟨⟨k + 1, Nat.succ_le_of_lt LT.out, rfl, HW.out.trans (B5.out.mono HW.out.size), Z5.out, ⟨n, Nat.le_succ_of_le HN.out, by rw [SY.out]; exact S5.out⟩, NX.out⟩, msr LT.out⟩
    · have kl : ¬ (k : Int) < m.cs.length := by omega
      have ek : k = m.cs.length := by omega
      subst ek
      have ans : VV = .agg #[.int .i64 0, .int .i64 0, .int .i64 0] := by rw [← HV.out, fstN_none AL.out]; rfl
      have AN : Hid _ := ans
      clear ans hbw hlt
      go_wp2_with (refine wpList_store_row rfl 69 _ _ rfl (w.heap.size + 1) _ rfl rfl _ _ HZ.out fw_info rfl (by kernel_rfl) ?_)
      refine bodyPost_ret (v := .agg #[.int .i64 0, .int .i64 0, .int .i64 0]) (results_cell_row Tryz.results24 _ _ (w.heap.size + 1) _ _ (0, 0) _ (by first | rfl | simp [Act.put]) (setRow_heap _ _ _ _ _ _ HZ.out) Tryz.underlying69 rfl fw_info) rfl ?_
      exact ⟨by rw [AN.out], row_below HW.out (by omega) _⟩
end Go.Proofs.YtahgnmbkobiclaaGreat
namespace Go.Proofs.YtahgnmbkobiclaaGreat
set_option linter.unusedVariables false
open Go.RowKit
theorem no_bad {s : RS} (n : Nat) (h : s.y ≠ 0) : s.no n = s := by
  obtain ⟨p, a, y⟩ := s
  show (⟨p, if y = 0 then _ else a, if y = 0 then 2 else y⟩ : RS) = _
  rw [if_neg h, if_neg h]
theorem no_ok {s : RS} (n : Nat) (h : s.y = 0) : s.no n = rdFail s n 2 := by
  obtain ⟨p, a, y⟩ := s
  unfold rdFail
  show (⟨p, if y = 0 then _ else a, if y = 0 then 2 else y⟩ : RS) = _
  rw [if_pos h, if_pos h, if_pos h]
theorem Cu.drewN {g kb o c : Nat} {bs : List Nat} {s : RS} {w : World} (h : Cu g kb o c bs s w) (k : Nat) : Cu g kb o c bs s (w.drewN k) := ⟨h.at_.drewN k, h.by_, h.le, h.n4, h.nc, h.ne, h.kl, h.b8⟩
set_option maxRecDepth 20000 in
set_option maxHeartbeats 4000000 in
theorem byteC (g kb o c : Nat) (bs : List Nat) : CuM 60 g kb o c bs (fun s => .int .i64 (rdB bs s).1) (fun s => (rdB bs s).2) := by
  intro s w h
  show Calls _ _ _ _ fun e w' => e = .returned (.int .i64 (rdB bs s).1) ∧ Cu g kb o c bs (rdB bs s).2 w' ∧ w.grownBy w' (some g)
  have H : Hid (Cu g kb o c bs s w) := h
  obtain ⟨c0, c1, c2, c3⟩ := h.at_.cs
  unfold rdB
  by_cases hy : s.y = 0
  · by_cases hp : s.p < bs.length
    · rw [if_pos ⟨hy, hp⟩]
      have e : bs[s.p]? = some (bs.getD s.p 0) := by rw [List.getD_eq_getElem?_getD, List.getElem?_eq_getElem hp]; rfl
      have e8 := h.b8 _ (List.mem_of_getElem? e)
      have HV : Hid (∀ V, w.grownBy V (some g) → V.cell? ⟨kb, o + s.p, none⟩ = some (.int .u8 (bs.getD s.p 0))) := fun V hV => hV.cell (h.by_ _ _ e) (by intro q; cases q; exact h.ne rfl)
      have NC : Hid (bs.length < c ∧ bs.length ≤ 4194304) := ⟨h.nc, h.n4⟩
      generalize bs.getD s.p 0 = v at *
      obtain ⟨p, a, y⟩ := s
      dsimp only at *
      subst hy
      clear h e
      have p1 : ¬ (bs.length : Int) ≤ p := by omega
      have p2 : wrap64 ((p : Int) + 1) = ((p + 1 : Nat) : Int) := by have := NC.out; unfold wrap64; omega
      have p3 : wrap64 (((p + 1 : Nat) : Int) - 1) = (p : Int) := by have := NC.out; unfold wrap64; omega
      have p4 : (p : Int) < bs.length := by omega
      have p5 : wrap64 (v : Int) = (v : Int) := by unfold wrap64; omega
      have PL : Hid (p < bs.length) := hp
      obtain ⟨q, hq⟩ : ∃ q, q = p + 1 := ⟨_, rfl⟩
      rw [← hq] at p2 p3 ⊢
      have HQ : Hid (q = p + 1) := hq
      clear hq hp
      go_enter Tryz.func60, Tryz.ntmps60
      go_upto_region 3 with fail
      go_quiet (fail)
      obtain ⟨W, eW⟩ : ∃ W, W = w.drewN nq := ⟨_, rfl⟩
      rw [← eW]
      have HW : Hid (Cu g kb o c bs ⟨p, a, 0⟩ W) := by rw [eW]; exact H.out.drewN _
      have GW : Hid (w.grownBy W (some g)) := by rw [eW]; exact gb_drewN (gb_refl _ _) _
      clear eW c0 c1 c2 c3
      obtain ⟨c0, c1, c2, c3⟩ := HW.out.at_.cs
      have z1 := HW.out.at_.froz 1
      go_upto_region 7 with fail
      obtain ⟨X, eX⟩ : ∃ X, X = W.setCell ⟨g, 1, none⟩ (.int .i64 (q : Int)) := ⟨_, rfl⟩
      rw [← eX]
      have GX : Hid (w.grownBy X (some g)) := by rw [eX]; exact gb_trans GW.out (gb_set _ _ _ _)
      have HX : Hid (Cu g kb o c bs ⟨q, a, 0⟩ X) := by
        rw [eX]
        exact HW.out.to (s' := ⟨q, a, 0⟩) (HW.out.at_.set1 q) (gb_set _ _ _ _) (by have := PL.out; have := HQ.out; show q ≤ _; omega)
      clear eX c0 c1 c2 c3 z1
      obtain ⟨c0, c1, c2, c3⟩ := HX.out.at_.cs
      have v0 := HV.out X GX.out
      go_quiet (fail)
      go_wp2
      go_ret
      exact ⟨rfl, HX.out.drewN _, gb_drewN GX.out _⟩
    · rw [if_neg (fun q => hp q.2), no_ok _ hy]
      have FX : Hid (∀ V, Cu g kb o c bs s V → Calls Tryz.prog 33 #[.pointer (some ⟨g, 0, none⟩), .int .i64 bs.length, .int .i64 2] V fun e w' => e = .returned (.tuple #[]) ∧ Cu g kb o c bs (rdFail s bs.length 2) w' ∧ V.grownBy w' (some g)) := fun V hV => failC g kb o c bs s _ _ V hV
      generalize rdFail s bs.length 2 = s2 at *
      obtain ⟨p, a, y⟩ := s
      dsimp only at *
      subst hy
      clear h
      have p1 : (bs.length : Int) ≤ p := by omega
      clear hp
      go_enter Tryz.func60, Tryz.ntmps60
      go_upto_region 3 with fail
      go_quiet (fail)
      obtain ⟨W, eW⟩ : ∃ W, W = w.drewN nq := ⟨_, rfl⟩
      rw [← eW]
      have HW : Hid (Cu g kb o c bs ⟨p, a, 0⟩ W) := by rw [eW]; exact H.out.drewN _
      have GW : Hid (w.grownBy W (some g)) := by rw [eW]; exact gb_drewN (gb_refl _ _) _
      clear eW c0 c1 c2 c3
      obtain ⟨c0, c1, c2, c3⟩ := HW.out.at_.cs
      go_upto_region 4 with fail
      go_wp2_with (go_at_call 33; refine (FX.out _ HW.out).mono ?_)
      first | (rintro e w1 ⟨he, h1, g1⟩; have he' := he) | (rintro e w1 he h1 g1)
      subst he
      have H1 : Hid (Cu g kb o c bs s2 w1) := h1
      have G1 : Hid (w.grownBy w1 (some g)) := gb_trans GW.out g1
      clear h1 g1
      go_wp2
      go_ret
      exact ⟨rfl, H1.out, G1.out⟩
  · rw [if_neg (fun q => hy q.1), no_bad _ hy]
    clear h
    go_enter Tryz.func60, Tryz.ntmps60
    go_wp2
    go_ret
    exact ⟨rfl, H.out, gb_refl _ _⟩
end Go.Proofs.YtahgnmbkobiclaaGreat
namespace Go.Proofs.YtahgnmbkobiclaaGreat
set_option linter.unusedVariables false
open Go.RowKit
def rdU (bs : List Nat) (s : RS) : Nat := if s.y = 0 ∧ s.p + 8 ≤ bs.length then leN ((bs.drop s.p).take 8) else 0
theorem leN_drop {l : List Nat} {j b : Nat} (h : l[j]? = some b) : leN (l.drop j) = b + 256 * leN (l.drop (j + 1)) := by
  have hj := (List.getElem?_eq_some_iff.1 h).1
  rw [List.drop_eq_getElem_cons hj]
  have : l[j] = b := (List.getElem?_eq_some_iff.1 h).2
  rw [this]
  rfl
theorem u64_mod (z : Int) : IntKind.u64.wrap z = z % 18446744073709551616 := rfl
set_option maxRecDepth 20000 in
set_option maxHeartbeats 4000000 in
theorem bitsC (g kb o c : Nat) (bs : List Nat) : CuM 107 g kb o c bs (fun s => .int .u64 (rdU bs s)) (fun s => (rdN bs s).2) := by
  intro s w h
  show Calls _ _ _ _ fun e w' => e = .returned (.int .u64 (rdU bs s)) ∧ Cu g kb o c bs (rdN bs s).2 w' ∧ w.grownBy w' (some g)
  have H : Hid (Cu g kb o c bs s w) := h
  obtain ⟨c0, c1, c2, c3⟩ := h.at_.cs
  unfold rdN rdU
  by_cases hy : s.y = 0
  · by_cases hp : s.p + 8 ≤ bs.length
    · rw [if_pos ⟨hy, hp⟩, if_pos ⟨hy, hp⟩]
      have L8 : Hid (((bs.drop s.p).take 8).length = 8) := drop_len _ _ _ hp
      have B8 : Hid (∀ v ∈ (bs.drop s.p).take 8, v < 256) := drop_mem h.b8
      have HV : Hid (∀ V, w.grownBy V (some g) → ∀ (j : Nat) v, ((bs.drop s.p).take 8)[j]? = some v → V.cell? ⟨kb, o + (s.p + j), none⟩ = some (.int .u8 v)) := fun V hV j v hj => hV.cell (h.by_ _ _ (drop_get _ _ _ hj)) (by intro q; cases q; exact h.ne rfl)
      have NC : Hid (bs.length < c ∧ bs.length ≤ 4194304) := ⟨h.nc, h.n4⟩
      generalize (bs.drop s.p).take 8 = l at *
      obtain ⟨p, a, y⟩ := s
      dsimp only at *
      subst hy
      clear h
      have PL : Hid (p + 8 ≤ bs.length) := hp
      obtain ⟨N1, e1, l1⟩ : ∃ N1 : Int, wrap64 ((bs.length : Int) - p) = N1 ∧ ¬ N1 < 8 := ⟨_, rfl, by have := NC.out; unfold wrap64; omega⟩
      have p8 : wrap64 ((p : Int) + 8) = ((p + 8 : Nat) : Int) := by have := NC.out; unfold wrap64; omega
      obtain ⟨q, hq⟩ : ∃ q, q = p + 8 := ⟨_, rfl⟩
      rw [← hq] at p8 ⊢
      have HQ : Hid (q = p + 8) := hq
      clear hq hp
      go_enter Tryz.func107, Tryz.ntmps107
      go_upto_region 3 with fail
      go_quiet (fail)
      obtain ⟨W, eW⟩ : ∃ W, W = w.drewN nq := ⟨_, rfl⟩
      rw [← eW]
      have HW : Hid (Cu g kb o c bs ⟨p, a, 0⟩ W) := by rw [eW]; exact H.out.drewN _
      have GW : Hid (w.grownBy W (some g)) := by rw [eW]; exact gb_drewN (gb_refl _ _) _
      clear eW c0 c1 c2 c3
      go_wp2
      go_loopw [3, 4] (fun s i wr => ∃ j : Nat, j ≤ 8 ∧ s = .int .u64 (leN (l.drop j) : Int) ∧ i = .int .i64 ((j : Int) - 1) ∧ Cu g kb o c bs ⟨p, a, 0⟩ wr ∧ w.grownBy wr (some g)) (fun _ i _ => (intOf i + 1).toNat)
      case atStart => exact ⟨8, Nat.le_refl _, by rw [List.drop_of_length_le (by rw [L8.out]; exact Nat.le_refl _)]; rfl, rfl, HW.out, GW.out⟩
      case round =>
        obtain ⟨j, hj, rfl, rfl, hc, hg⟩ := hrel
        have HC : Hid (Cu g kb o c bs ⟨p, a, 0⟩ wr) := hc
        have GC : Hid (w.grownBy wr (some g)) := hg
        obtain ⟨c0, c1, c2, c3⟩ := hc.at_.cs
        clear hc hg
        by_cases h0 : j = 0
        · subst h0
          rw [List.drop_zero]
          have HF : Hid (Cu g kb o c bs ⟨q, a, 0⟩ (wr.setCell ⟨g, 1, none⟩ (.int .i64 (q : Int)))) := HC.out.to (s' := ⟨q, a, 0⟩) (HC.out.at_.set1 q) (gb_set _ _ _ _) (by have := PL.out; have := HQ.out; show q ≤ _; omega)
          have GF : Hid (w.grownBy (wr.setCell ⟨g, 1, none⟩ (.int .i64 (q : Int))) (some g)) := gb_trans GC.out (gb_set _ _ _ _)
          have z1 := HC.out.at_.froz 1
          go_wp2
          go_ret
          exact ⟨rfl, HF.out, GF.out⟩
        · obtain ⟨i, rfl⟩ : ∃ i, j = i + 1 := ⟨j - 1, by omega⟩
          have ei : (((i + 1 : Nat) : Int) - 1) = (i : Int) := by omega
          rw [ei]
          obtain ⟨v, hv⟩ : ∃ v, l[i]? = some v := ⟨_, List.getElem?_eq_getElem (by have := L8.out; omega)⟩
          have v0 := HV.out wr GC.out i v hv
          have LD : Hid (leN (l.drop i) = v + 256 * leN (l.drop (i + 1))) := leN_drop hv
          have LL : Hid (leN (l.drop i) < 256 ^ (8 - i)) := by
            have := leN_lt (a := l.drop i) (fun b hb => B8.out b (List.mem_of_mem_drop hb))
            rw [List.length_drop, L8.out] at this
            exact this
          have i0 : ¬ (i : Int) < 0 := by omega
          have p1 : wrap64 ((p : Int) + i) = ((p + i : Nat) : Int) := by have := NC.out; have := PL.out; unfold wrap64; omega
          have p2 : ((p + i : Nat) : Int) < bs.length := by have := PL.out; omega
          have LE : Hid (i ≤ 7) := by show i ≤ 7; omega
          have LQ : Hid (256 ^ (8 - i) ≤ 18446744073709551616) := by
            show _ ≤ 256 ^ 8
            exact Nat.pow_le_pow_right (by decide) (by omega)
          generalize leN (l.drop (i + 1)) = m at *
          obtain ⟨r, er⟩ : ∃ r, r = p + i := ⟨_, rfl⟩
          rw [← er] at p1 p2 v0
          clear h0 hj hv er
          have EV : Hid (IntKind.u64.wrap (IntKind.u64.wrap (256 * (m : Int)) + IntKind.u64.wrap (v : Int)) = (leN (l.drop i) : Int)) := by
            show _ = _
            rw [u64_mod, u64_mod, u64_mod]
            have := LD.out
            have := LL.out
            have := LQ.out
            omega
          have p9 : wrap64 ((i : Int) - 1) = (i : Int) - 1 := by have := LE.out; unfold wrap64; omega
          go_upto_region 10 with fail
          go_quiet (fail)
          rw [EV.out]
          go_wp2
          rw [p9]
          exact ⟨⟨i, by have := LE.out; omega, rfl, rfl, HC.out.drewN _, gb_drewN GC.out _⟩, by show ((i : Int) - 1 + 1).toNat < ((i : Int) + 1).toNat; omega⟩
    · rw [if_neg (fun q => hp q.2), if_neg (fun q => hp q.2), no_ok _ hy]
      have FX : Hid (∀ V, Cu g kb o c bs s V → Calls Tryz.prog 33 #[.pointer (some ⟨g, 0, none⟩), .int .i64 bs.length, .int .i64 2] V fun e w' => e = .returned (.tuple #[]) ∧ Cu g kb o c bs (rdFail s bs.length 2) w' ∧ V.grownBy w' (some g)) := fun V hV => failC g kb o c bs s _ _ V hV
      generalize rdFail s bs.length 2 = s2 at *
      obtain ⟨p, a, y⟩ := s
      dsimp only at *
      subst hy
      obtain ⟨N1, e1, l1⟩ : ∃ N1 : Int, wrap64 ((bs.length : Int) - p) = N1 ∧ N1 < 8 := ⟨_, rfl, by have := h.n4; have := h.le; dsimp only at *; unfold wrap64; omega⟩
      clear h hp
      go_enter Tryz.func107, Tryz.ntmps107
      go_upto_region 3 with fail
      go_quiet (fail)
      obtain ⟨W, eW⟩ : ∃ W, W = w.drewN nq := ⟨_, rfl⟩
      rw [← eW]
      have HW : Hid (Cu g kb o c bs ⟨p, a, 0⟩ W) := by rw [eW]; exact H.out.drewN _
      have GW : Hid (w.grownBy W (some g)) := by rw [eW]; exact gb_drewN (gb_refl _ _) _
      clear eW c0 c1 c2 c3
      obtain ⟨c0, c1, c2, c3⟩ := HW.out.at_.cs
      go_upto_region 4 with fail
      go_wp2_with (go_at_call 33; refine (FX.out _ HW.out).mono ?_)
      first | (rintro e w1 ⟨he, h1, g1⟩; have he' := he) | (rintro e w1 he h1 g1)
      subst he
      have H1 : Hid (Cu g kb o c bs s2 w1) := h1
      have G1 : Hid (w.grownBy w1 (some g)) := gb_trans GW.out g1
      clear h1 g1
      go_wp2
      go_ret
      exact ⟨rfl, H1.out, G1.out⟩
  · rw [if_neg (fun q => hy q.1), if_neg (fun q => hy q.1), no_bad _ hy]
    clear h
    go_enter Tryz.func107, Tryz.ntmps107
    go_wp2
    go_ret
    exact ⟨rfl, H.out, gb_refl _ _⟩
end Go.Proofs.YtahgnmbkobiclaaGreat
namespace Go.Proofs.YtahgnmbkobiclaaGreat
set_option linter.unusedVariables false
open Go.RowKit
theorem rdN_U (bs : List Nat) (s : RS) : (rdN bs s).1 = wrap64 (rdU bs s : Int) := by
  unfold rdN rdU
  split
  · rfl
  · show (0 : Int) = wrap64 ((0 : Nat) : Int); unfold wrap64; omega
set_option maxRecDepth 20000 in
set_option maxHeartbeats 4000000 in
theorem numberC (g kb o c : Nat) (bs : List Nat) : CuM 59 g kb o c bs (fun s => .int .i64 (rdN bs s).1) (fun s => (rdN bs s).2) := by
  intro s w h
  show Calls _ _ _ _ fun e w' => e = .returned (.int .i64 (rdN bs s).1) ∧ Cu g kb o c bs (rdN bs s).2 w' ∧ w.grownBy w' (some g)
  have BX : Hid (Calls Tryz.prog 107 #[.pointer (some ⟨g, 0, none⟩)] w fun e w' => e = .returned (.int .u64 (rdU bs s)) ∧ Cu g kb o c bs (rdN bs s).2 w' ∧ w.grownBy w' (some g)) := bitsC g kb o c bs s w h
  have e := rdN_U bs s
  generalize (rdN bs s).1 = N at *
  generalize (rdN bs s).2 = s2 at *
  generalize (rdU bs s : Nat) = U at *
  subst e
  clear h
  go_enter Tryz.func59, Tryz.ntmps59
  go_wp2_with (go_at_call 107; refine (BX.out).mono ?_)
  first | (rintro e w1 ⟨he, h1, g1⟩; have he' := he) | (rintro e w1 he h1 g1)
  subst he
  have H1 : Hid (Cu g kb o c bs s2 w1) := h1
  have G1 : Hid (w.grownBy w1 (some g)) := g1
  clear h1 g1
  go_wp2
  go_ret
  exact ⟨rfl, H1.out, G1.out⟩
set_option maxRecDepth 20000 in
set_option maxHeartbeats 4000000 in
theorem boolC (g kb o c : Nat) (bs : List Nat) : CuM 61 g kb o c bs (fun s => .bool (rdF bs s).1) (fun s => (rdF bs s).2) := by
  intro s w h
  show Calls _ _ _ _ fun e w' => e = .returned (.bool (rdF bs s).1) ∧ Cu g kb o c bs (rdF bs s).2 w' ∧ w.grownBy w' (some g)
  have BX : Hid (Calls Tryz.prog 60 #[.pointer (some ⟨g, 0, none⟩)] w fun e w' => e = .returned (.int .i64 (rdB bs s).1) ∧ Cu g kb o c bs (rdB bs s).2 w' ∧ w.grownBy w' (some g)) := byteC g kb o c bs s w h
  obtain ⟨c0, c1, c2, c3⟩ := h.at_.cs
  unfold rdF
  have ok : 1 < (rdB bs s).1 → (rdB bs s).2.y = 0 ∧ (rdB bs s).2.p = s.p + 1 := by
    unfold rdB
    split
    · intro _; exact ⟨rfl, rfl⟩
    · intro q; exact absurd q (by show ¬ 1 < 0; omega)
  generalize (rdB bs s).1 = v at *
  generalize (rdB bs s).2 = t at *
  clear h
  by_cases h1 : 1 < v
  · rw [if_pos h1]
    obtain ⟨k1, k2⟩ := ok h1
    obtain ⟨p, a, y⟩ := s
    obtain ⟨p', a', y'⟩ := t
    dsimp only at *
    subst k1
    subst k2
    have FX : Hid (∀ V, Cu g kb o c bs ⟨p + 1, a', 0⟩ V → Calls Tryz.prog 33 #[.pointer (some ⟨g, 0, none⟩), .int .i64 p, .int .i64 203] V fun e w' => e = .returned (.tuple #[]) ∧ Cu g kb o c bs ⟨p + 1, p, 203⟩ w' ∧ V.grownBy w' (some g)) := fun V hV => failC g kb o c bs ⟨p + 1, a', 0⟩ _ _ V hV
    have i1 : (1 : Int) < (v : Int) := by omega
    have i2 : ((v : Int) == 1) = false := by rw [beq_eq_false_iff_ne]; omega
    have i3 : (v == 1) = false := by rw [beq_eq_false_iff_ne]; omega
    rw [i3]
    have i4 : ¬ (v : Int) = 1 := by omega
    have i5 : ¬ v = 1 := by omega
    clear h1 ok
    generalize hq : p + 1 = q at *
    clear hq
    go_enter Tryz.func61, Tryz.ntmps61
    go_wp2_with (go_at_call 60; refine (BX.out).mono ?_)
    first | (rintro e w1 ⟨he, h1, g1⟩; have he' := he) | (rintro e w1 he h1 g1)
    subst he
    have H1 : Hid (Cu g kb o c bs ⟨q, a', 0⟩ w1) := h1
    have G1 : Hid (w.grownBy w1 (some g)) := g1
    clear h1 g1 c0 c1 c2 c3
    go_wp2_with (go_at_call 33; refine (FX.out _ H1.out).mono ?_)
    first | (rintro e w2 ⟨he, h2, g2⟩; have he' := he) | (rintro e w2 he h2 g2)
    subst he
    have H2 : Hid (Cu g kb o c bs ⟨q, p, 203⟩ w2) := h2
    have G2 : Hid (w.grownBy w2 (some g)) := gb_trans G1.out g2
    clear h2 g2
    go_wp2
    go_ret
    exact ⟨rfl, H2.out, G2.out⟩
  · rw [if_neg h1]
    have i1 : ¬ (1 : Int) < (v : Int) := by omega
    have i3 : (v == 1) = ((v : Int) == 1) := by
      by_cases q : v = 1
      · subst q; rfl
      · rw [beq_eq_false_iff_ne.2 q, beq_eq_false_iff_ne.2 (by omega)]
    rw [i3]
    clear h1 i3 ok
    go_enter Tryz.func61, Tryz.ntmps61
    go_wp2_with (go_at_call 60; refine (BX.out).mono ?_)
    first | (rintro e w1 ⟨he, h1, g1⟩; have he' := he) | (rintro e w1 he h1 g1)
    subst he
    have H1 : Hid (Cu g kb o c bs t w1) := h1
    have G1 : Hid (w.grownBy w1 (some g)) := g1
    clear h1 g1 c0 c1 c2 c3
    go_wp2
    go_ret
    exact ⟨rfl, H1.out, G1.out⟩
end Go.Proofs.YtahgnmbkobiclaaGreat
namespace Go.Proofs.YtahgnmbkobiclaaGreat
set_option linter.unusedVariables false
open Go.RowKit
/-- What the document's count tells. -/
def rdCz (bs : List Nat) (s : RS) : Int := if (rdC bs s).2.y = 0 then (rdC bs s).1 else 0
theorem rdN_at (bs : List Nat) (s : RS) : ((rdN bs s).2.y = 0 → (rdN bs s).2.p = s.p + 8) ∧ ((rdN bs s).2.y ≠ 0 → (rdN bs s).1 = 0) := by
  unfold rdN
  split
  · exact ⟨fun _ => rfl, fun q => absurd rfl q⟩
  · exact ⟨fun q => absurd q (RS.no_y _ _), fun _ => rfl⟩
set_option maxRecDepth 20000 in
set_option maxHeartbeats 4000000 in
theorem countC (g kb o c : Nat) (bs : List Nat) : CuM 29 g kb o c bs (fun s => .int .i64 (rdCz bs s)) (fun s => (rdC bs s).2) := by
  intro s w h
  show Calls _ _ _ _ fun e w' => e = .returned (.int .i64 (rdCz bs s)) ∧ Cu g kb o c bs (rdC bs s).2 w' ∧ w.grownBy w' (some g)
  have BX : Hid (Calls Tryz.prog 59 #[.pointer (some ⟨g, 0, none⟩)] w fun e w' => e = .returned (.int .i64 (rdN bs s).1) ∧ Cu g kb o c bs (rdN bs s).2 w' ∧ w.grownBy w' (some g)) := numberC g kb o c bs s w h
  have FX : Hid (∀ V t a y, Cu g kb o c bs t V → Calls Tryz.prog 33 #[.pointer (some ⟨g, 0, none⟩), .int .i64 a, .int .i64 y] V fun e w' => e = .returned (.tuple #[]) ∧ Cu g kb o c bs (rdFail t a y) w' ∧ V.grownBy w' (some g)) := fun V t a y hV => failC g kb o c bs t a y V hV
  obtain ⟨c0, c1, c2, c3⟩ := h.at_.cs
  obtain ⟨k1, k2⟩ := rdN_at bs s
  have k3 := rdN_le h.le
  have k4 := h.n4
  unfold rdCz rdC
  generalize (rdN bs s).1 = N at *
  generalize (rdN bs s).2 = t at *
  obtain ⟨N1, e1, l1⟩ : ∃ N1 : Int, wrap64 ((bs.length : Int) - t.p) = N1 ∧ N1 = (bs.length : Int) - t.p := ⟨_, rfl, by unfold wrap64; omega⟩
  obtain ⟨p, a, y⟩ := s
  obtain ⟨q, a', y'⟩ := t
  dsimp only at *
  clear h
  by_cases hy : y' = 0
  · subst hy
    have k5 := k1 rfl
    subst k5
    rw [if_pos rfl]
    by_cases r : N < 0
    · rw [if_pos r, if_neg (show ¬ (4 : Int) = 0 by decide)]
      have r2 : ¬ N1 < N := by omega
      clear k1 k2 k3 k4 l1
      generalize hq : p + 8 = q at *
      clear hq
      go_enter Tryz.func29, Tryz.ntmps29
      go_wp2_with (go_at_call 59; refine (BX.out).mono ?_)
      first | (rintro e w1 ⟨he, h1, g1⟩; have he' := he) | (rintro e w1 he h1 g1)
      subst he
      have H1 : Hid (Cu g kb o c bs ⟨q, a', 0⟩ w1) := h1
      have G1 : Hid (w.grownBy w1 (some g)) := g1
      clear h1 g1 c0 c1 c2 c3
      obtain ⟨c0, c1, c2, c3⟩ := H1.out.at_.cs
      go_wp2_with (go_at_call 33; refine (FX.out _ ⟨q, a', 0⟩ p 4 H1.out).mono ?_)
      first | (rintro e w2 ⟨he, h2, g2⟩; have he' := he) | (rintro e w2 he h2 g2)
      subst he
      have H2 : Hid (Cu g kb o c bs ⟨q, p, 4⟩ w2) := h2
      have G2 : Hid (w.grownBy w2 (some g)) := gb_trans G1.out g2
      clear h2 g2 c0 c1 c2 c3
      obtain ⟨c0, c1, c2, c3⟩ := H2.out.at_.cs
      go_upto_region 5 with fail
      go_quiet (fail)
      obtain ⟨W3, eW⟩ : ∃ W, W = w2.drewN nq := ⟨_, rfl⟩
      rw [← eW]
      have H3 : Hid (Cu g kb o c bs ⟨q, p, 4⟩ W3) := by rw [eW]; exact H2.out.drewN _
      have G3 : Hid (w.grownBy W3 (some g)) := by rw [eW]; exact gb_drewN G2.out _
      clear eW c0 c1 c2 c3
      obtain ⟨c0, c1, c2, c3⟩ := H3.out.at_.cs
      go_wp2
      go_ret
      exact ⟨rfl, H3.out, G3.out⟩
    · rw [if_neg r]
      by_cases r2 : (bs.length : Int) - (p + 8) < N
      · rw [if_pos r2, if_neg (show ¬ (2 : Int) = 0 by decide)]
        have r3 : N1 < N := by omega
        clear k1 k2 k3 k4 l1 r2
        generalize hq : p + 8 = q at *
        clear hq
        go_enter Tryz.func29, Tryz.ntmps29
        go_wp2_with (go_at_call 59; refine (BX.out).mono ?_)
        first | (rintro e w1 ⟨he, h1, g1⟩; have he' := he) | (rintro e w1 he h1 g1)
        subst he
        have H1 : Hid (Cu g kb o c bs ⟨q, a', 0⟩ w1) := h1
        have G1 : Hid (w.grownBy w1 (some g)) := g1
        clear h1 g1 c0 c1 c2 c3
        obtain ⟨c0, c1, c2, c3⟩ := H1.out.at_.cs
        go_upto_region 5 with fail
        go_quiet (fail)
        obtain ⟨W2, eW⟩ : ∃ W, W = w1.drewN nq := ⟨_, rfl⟩
        rw [← eW]
        have H2 : Hid (Cu g kb o c bs ⟨q, a', 0⟩ W2) := by rw [eW]; exact H1.out.drewN _
        have G2 : Hid (w.grownBy W2 (some g)) := by rw [eW]; exact gb_drewN G1.out _
        clear eW c0 c1 c2 c3
        obtain ⟨c0, c1, c2, c3⟩ := H2.out.at_.cs
        go_wp2_with (go_at_call 33; refine (FX.out _ ⟨q, a', 0⟩ bs.length 2 H2.out).mono ?_)
        first | (rintro e w3 ⟨he, h3, g3⟩; have he' := he) | (rintro e w3 he h3 g3)
        subst he
        have H3 : Hid (Cu g kb o c bs ⟨q, bs.length, 2⟩ w3) := h3
        have G3 : Hid (w.grownBy w3 (some g)) := gb_trans G2.out g3
        clear h3 g3 c0 c1 c2 c3
        obtain ⟨c0, c1, c2, c3⟩ := H3.out.at_.cs
        go_wp2
        go_ret
        exact ⟨rfl, H3.out, G3.out⟩
      · rw [if_neg r2, if_pos rfl]
        have r3 : ¬ N1 < N := by omega
        clear k1 k2 k3 k4 l1 r2
        generalize hq : p + 8 = q at *
        clear hq
        go_enter Tryz.func29, Tryz.ntmps29
        go_wp2_with (go_at_call 59; refine (BX.out).mono ?_)
        first | (rintro e w1 ⟨he, h1, g1⟩; have he' := he) | (rintro e w1 he h1 g1)
        subst he
        have H1 : Hid (Cu g kb o c bs ⟨q, a', 0⟩ w1) := h1
        have G1 : Hid (w.grownBy w1 (some g)) := g1
        clear h1 g1 c0 c1 c2 c3
        obtain ⟨c0, c1, c2, c3⟩ := H1.out.at_.cs
        go_upto_region 5 with fail
        go_quiet (fail)
        obtain ⟨W2, eW⟩ : ∃ W, W = w1.drewN nq := ⟨_, rfl⟩
        rw [← eW]
        have H2 : Hid (Cu g kb o c bs ⟨q, a', 0⟩ W2) := by rw [eW]; exact H1.out.drewN _
        have G2 : Hid (w.grownBy W2 (some g)) := by rw [eW]; exact gb_drewN G1.out _
        clear eW c0 c1 c2 c3
        obtain ⟨c0, c1, c2, c3⟩ := H2.out.at_.cs
        go_wp2
        go_ret
        exact ⟨rfl, H2.out, G2.out⟩
  · rw [if_neg hy, if_neg hy]
    have k5 := k2 hy
    subst k5
    have r3 : ¬ N1 < 0 := by omega
    clear k1 k2 k3 k4 l1
    go_enter Tryz.func29, Tryz.ntmps29
    go_wp2_with (go_at_call 59; refine (BX.out).mono ?_)
    first | (rintro e w1 ⟨he, h1, g1⟩; have he' := he) | (rintro e w1 he h1 g1)
    subst he
    have H1 : Hid (Cu g kb o c bs ⟨q, a', y'⟩ w1) := h1
    have G1 : Hid (w.grownBy w1 (some g)) := g1
    clear h1 g1 c0 c1 c2 c3
    obtain ⟨c0, c1, c2, c3⟩ := H1.out.at_.cs
    go_upto_region 5 with fail
    go_quiet (fail)
    obtain ⟨W2, eW⟩ : ∃ W, W = w1.drewN nq := ⟨_, rfl⟩
    rw [← eW]
    have H2 : Hid (Cu g kb o c bs ⟨q, a', y'⟩ W2) := by rw [eW]; exact H1.out.drewN _
    have G2 : Hid (w.grownBy W2 (some g)) := by rw [eW]; exact gb_drewN G1.out _
    clear eW c0 c1 c2 c3
    obtain ⟨c0, c1, c2, c3⟩ := H2.out.at_.cs
    go_wp2
    go_ret
    exact ⟨rfl, H2.out, G2.out⟩
end Go.Proofs.YtahgnmbkobiclaaGreat
namespace Go.Proofs.YtahgnmbkobiclaaGreat
set_option linter.unusedVariables false
open Go.RowKit
set_option maxRecDepth 20000 in
set_option maxHeartbeats 4000000 in
theorem textG (g kb o c : Nat) (bs : List Nat) (s t : RS) (k : Nat) (S : ByteArray) (w : World) (h : Cu g kb o c bs s w) (hk : t.p + k ≤ bs.length)
    (hS : strOfNums (((bs.drop t.p).take k).map Int.ofNat) = S)
    (hc : Calls Tryz.prog 29 #[.pointer (some ⟨g, 0, none⟩)] w fun e w' => e = .returned (.int .i64 k) ∧ Cu g kb o c bs t w' ∧ w.grownBy w' (some g)) :
    Calls Tryz.prog 28 #[.pointer (some ⟨g, 0, none⟩)] w fun e w' => e = .returned (.string S) ∧ Cu g kb o c bs ⟨t.p + k, t.a, t.y⟩ w' ∧ w.grownBy w' (some g) := by
  have TK : Hid (Calls Tryz.prog 29 #[.pointer (some ⟨g, 0, none⟩)] w fun e w' => e = .returned (.int .i64 k) ∧ Cu g kb o c bs t w' ∧ w.grownBy w' (some g)) := hc
  obtain ⟨p, a, y⟩ := t
  dsimp only at *
  have CV : Hid (∀ V, w.grownBy V (some g) → (convert 22 9 (.slice (some ⟨kb, o + p, none⟩) k (c - p))).run Tryz.prog V = .ok (.string S) V) := fun V hV => by
    rw [← hS]
    exact run_convert_bytes_arg (P := Tryz.prog) V 22 5 (by kernel_rfl) (by kernel_rfl) kb (o + p) k (c - p) (((bs.drop p).take k).map Int.ofNat) (by rw [List.length_map, drop_len _ _ _ hk]) (fun i hi => by
      obtain ⟨v, hvi⟩ : ∃ v, ((bs.drop p).take k)[i]? = some v := ⟨_, List.getElem?_eq_getElem (by rw [drop_len _ _ _ hk]; omega)⟩
      have q := hV.cell (h.by_ _ _ (drop_get _ _ _ hvi)) (by intro q; cases q; exact h.ne rfl)
      rw [Nat.add_assoc, q]
      rw [List.getD_eq_getElem?_getD, List.getElem?_map, hvi]; rfl) 9 (by kernel_rfl)
  have NC : Hid (bs.length < c ∧ bs.length ≤ 4194304 ∧ p + k ≤ bs.length) := ⟨h.nc, h.n4, hk⟩
  obtain ⟨q, hq⟩ : ∃ q, q = p + k := ⟨_, rfl⟩
  have p1 : wrap64 ((p : Int) + k) = (q : Int) := by have := NC.out; unfold wrap64; omega
  have t1 : ((p : Nat) : Int).toNat = p := by omega
  have t2 : ((q : Nat) : Int).toNat = q := by omega
  have q1 : p ≤ q := by omega
  have q2 : q ≤ c := by have := NC.out; omega
  have q3 : (p : Int) ≤ q := by omega
  have q4 : (q : Int) ≤ c := by have := NC.out; omega
  have q5 : q - p = k := by omega
  have q6 : ¬ c = p := by have := NC.out; omega
  have q7 : ¬ c - p = 0 := by have := NC.out; omega
  have HQ : Hid (q = p + k ∧ q ≤ bs.length) := ⟨hq, by have := NC.out; omega⟩
  rw [← hq]
  clear hq hk h hc hS
  go_enter Tryz.func28, Tryz.ntmps28
  go_wp2_with (go_at_call 29; refine (TK.out).mono ?_)
  first | (rintro e w1 ⟨he, h1, g1⟩; have he' := he) | (rintro e w1 he h1 g1)
  subst he
  have H1 : Hid (Cu g kb o c bs ⟨p, a, y⟩ w1) := h1
  have G1 : Hid (w.grownBy w1 (some g)) := g1
  obtain ⟨c0, c1, c2, c3⟩ := h1.at_.cs
  have cv := fun n => CV.out (w1.drewN n) (gb_drewN g1 n)
  clear h1 g1
  go_upto_region 2 with fail
  go_quiet (fail)
  obtain ⟨W, eW⟩ : ∃ W, W = w1.drewN nq := ⟨_, rfl⟩
  rw [← eW]
  have HW : Hid (Cu g kb o c bs ⟨p, a, y⟩ W) := by rw [eW]; exact H1.out.drewN _
  have GW : Hid (w.grownBy W (some g)) := by rw [eW]; exact gb_drewN G1.out _
  clear eW c0 c1 c2 c3 cv
  obtain ⟨c0, c1, c2, c3⟩ := HW.out.at_.cs
  have z1 := HW.out.at_.froz 1
  have GX : Hid (w.grownBy (W.setCell ⟨g, 1, none⟩ (.int .i64 (q : Int))) (some g)) := gb_trans GW.out (gb_set _ _ _ _)
  have HX : Hid (Cu g kb o c bs ⟨q, a, y⟩ (W.setCell ⟨g, 1, none⟩ (.int .i64 (q : Int)))) := HW.out.to (s' := ⟨q, a, y⟩) (HW.out.at_.set1 q) (gb_set _ _ _ _) (by have := HQ.out; show q ≤ _; omega)
  go_wp2
  go_ret
  exact ⟨rfl, HX.out, GX.out⟩
theorem textC (g kb o c : Nat) (bs : List Nat) : CuM 28 g kb o c bs (fun s => .string (rdT bs s).1) (fun s => (rdT bs s).2) := by
  intro s w h
  show Calls _ _ _ _ fun e w' => e = .returned (.string (rdT bs s).1) ∧ Cu g kb o c bs (rdT bs s).2 w' ∧ w.grownBy w' (some g)
  have hc : Calls Tryz.prog 29 #[.pointer (some ⟨g, 0, none⟩)] w fun e w' => e = .returned (.int .i64 (rdCz bs s)) ∧ Cu g kb o c bs (rdC bs s).2 w' ∧ w.grownBy w' (some g) := countC g kb o c bs s w h
  have tp := rdC_le h.le
  unfold rdCz at hc
  unfold rdT
  by_cases q : (rdC bs s).2.y = 0
  · rw [if_pos q] at hc ⊢
    obtain ⟨k0, k1⟩ := rdC_ok q
    obtain ⟨k, hk⟩ : ∃ k : Nat, (rdC bs s).1 = k := ⟨(rdC bs s).1.toNat, by omega⟩
    rw [hk] at hc k1 ⊢
    rw [Int.toNat_natCast] at *
    have r := textG g kb o c bs s (rdC bs s).2 k _ w h k1 rfl hc
    rw [q] at r
    exact r
  · rw [if_neg q] at hc ⊢
    exact textG g kb o c bs s (rdC bs s).2 0 _ w h tp rfl hc
end Go.Proofs.YtahgnmbkobiclaaGreat
namespace Go.Proofs.YtahgnmbkobiclaaGreat
set_option linter.unusedVariables false
open Go.RowKit
theorem img_dec (m m' : ImR) : decide (m = m') = (decide (m.nm = m'.nm) && decide (m.cs = m'.cs) && decide (m.fs = m'.fs) && decide (m.js = m'.js)) := by
  rw [← Bool.decide_and, ← Bool.decide_and, ← Bool.decide_and]
  apply decide_eq_decide.2
  constructor
  · intro e; rw [e]; exact ⟨⟨⟨rfl, rfl⟩, rfl⟩, rfl⟩
  · rintro ⟨⟨⟨h1, h2⟩, h3⟩, h4⟩
    cases m
    cases m'
    simp_all
end Go.Proofs.YtahgnmbkobiclaaGreat
