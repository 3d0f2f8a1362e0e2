/- image: lists that a reader reads, as functions of the bytes; no statement of the seat is proved here. -/
import Derived.Test.YtkickdmomompjaaGreatKoA6
import Derived.Test.YtkickdmomompjaaGreatKoA5
import Derived.Test.YtkickdmomompjaaGreatKoA1
namespace Go.Proofs.YtkickdmomompjaaGreat
set_option linter.unusedVariables false
open Go.RowKit
/-- The addresses that the first cells have. -/
def setL (l : List CeR) (k : Nat) : List ByteArray := ((l.take k).filter (fun c => !emB c.ad)).map (·.ad)
theorem setL_any (l : List CeR) (k : Nat) (s : ByteArray) : (setL l k).any (fun x => decide (x = s)) = !(emB s || (l.take k).all (fun x => decide (¬ x.ad = s))) := by
  unfold setL
  generalize l.take k = t
  induction t with
  | nil => simp
  | cons c t ih =>
    cases q : emB c.ad
    · simp only [List.filter_cons, q, Bool.not_false, if_pos, List.map_cons, List.any_cons, ih, List.all_cons]
      by_cases e : c.ad = s
      · subst e
        simp [q]
      · simp [e]
    · simp only [List.filter_cons, q, Bool.not_true, List.all_cons]
      rw [if_neg (by simp), ih]
      by_cases e : c.ad = s
      · subst e
        simp [q]
      · simp [e]
theorem setL_yes (l : List CeR) (k : Nat) (c : CeR) (h : l[k]? = some c) (he : emB c.ad = false) : setL l (k + 1) = setL l k ++ [c.ad] := by
  unfold setL
  rw [List.take_add_one, h]
  simp [he]
theorem setL_no (l : List CeR) (k : Nat) (c : CeR) (h : l[k]? = some c) (he : emB c.ad = true) : setL l (k + 1) = setL l k := by
  unfold setL
  rw [List.take_add_one, h]
  simp [he]
theorem tw_at (w2 : World) (X Y : Obj) : ((w2.alloc X).alloc Y).heap[w2.heap.size]? = some X ∧ ((w2.alloc X).alloc Y).heap[w2.heap.size + 1]? = some Y := by
  have q := heap_alloc_last (w2.alloc X) Y
  rw [show (w2.alloc X).heap.size = w2.heap.size + 1 by simp] at q
  exact ⟨(Below.heap_alloc _ _ _ (by simp)).trans (heap_alloc_last _ _), q⟩
theorem fw_info : (Tryz.prog.info? 47).map (·.size) = some 3 := by kernel_rfl
theorem row_below {w wr : World} (h : Below w.heap.size w wr) {g : Nat} (hg : w.heap.size ≤ g) (cs : Array Value) : Below w.heap.size w (wr.setRow g cs) :=
  h.trans ⟨rfl, rfl, rfl, by simp [World.setRow], fun k hk => setRow_other _ _ _ _ (by omega)⟩
/-- What a look at all cells answers. -/
def fwV (o : Option Nat) (e : Int) : Value := match o with
  | some i => .agg #[.int .i64 i, .int .i64 0, .int .i64 e]
  | none => .agg #[.int .i64 0, .int .i64 0, .int .i64 0]
set_option maxRecDepth 20000 in
set_option maxHeartbeats 8000000 in
theorem cellFlaw_of (m : ImR) (x1 x2 x3 : Option Addr) (p1 p2 p3 : Nat) (w : World) {S : Nat → Prop} (hS : ∀ b, S b → b < w.heap.size) (ha : RwF 11 (Is ceC) S w x1 m.cs) (ho : ∀ c ∈ m.cs, CeOk c) :
    Calls Tryz.prog 13 #[.agg #[.string m.nm, .slice x1 m.cs.length p1, .slice x2 m.fs.length p2, .slice x3 m.js.length p3]] w fun e w' => e = .returned (fwV (fstN (ceAt m.cs) m.cs.length) 203) ∧ Below w.heap.size w w' := by
  have HA : Hid (RwF 11 (Is ceC) S w x1 m.cs) := ha
  have HS : Hid (∀ b, S b → b < w.heap.size) := hS
  have HO : Hid (∀ c ∈ m.cs, CeOk c) := ho
  clear ha hS ho
  generalize hv : fwV (fstN (ceAt m.cs) m.cs.length) 203 = VV
  have HV : Hid (fwV (fstN (ceAt m.cs) m.cs.length) 203 = VV) := hv
  clear hv
  have mm := mk_map
  obtain ⟨AW, eW⟩ : ∃ AW, AW = ((w.alloc (.cells #[.string m.nm, .slice x1 m.cs.length p1, .slice x2 m.fs.length p2, .slice x3 m.js.length p3] 26 (0, 0))).alloc (.cells #[.int .i64 0, .int .i64 0, .int .i64 0] 47 (0, 0))).alloc (.map #[] 0) := ⟨_, rfl⟩
  have AB : Hid (Below w.heap.size w AW) := by rw [eW]; exact (((Below.refl _ _).alloc (Nat.le_refl _) _).alloc (by simp) _).alloc (by simp; omega) _
  have AZ : Hid (AW.heap[w.heap.size + 1]? = some (.cells #[.int .i64 0, .int .i64 0, .int .i64 0] 47 (0, 0))) := by rw [eW]; exact (Below.heap_alloc _ _ _ (by simp)).trans (tw_at w _ _).2
  have AX : Hid (AW.heap[w.heap.size]? = some (.cells #[.string m.nm, .slice x1 m.cs.length p1, .slice x2 m.fs.length p2, .slice x3 m.js.length p3] 26 (0, 0))) := by rw [eW]; exact (Below.heap_alloc _ _ _ (by simp; omega)).trans (tw_at w _ _).1
  have AM : Hid (SetS AW (w.heap.size + 1 + 1) 0 []) := by rw [eW]; have := SetS.made ((w.alloc (.cells #[.string m.nm, .slice x1 m.cs.length p1, .slice x2 m.fs.length p2, .slice x3 m.js.length p3] 26 (0, 0))).alloc (.cells #[.int .i64 0, .int .i64 0, .int .i64 0] 47 (0, 0))); simp only [World.size_alloc] at this; exact this
  have sl := blk_in AX.out
  have b1 : AW.cell? ⟨w.heap.size, 1, none⟩ = some (.slice x1 m.cs.length p1) := by simp [World.cell?, AX.out]
  go_enter Tryz.func13, Tryz.ntmps13
  go_upto_region 2 with fail
  rw [← eW]
  clear eW mm AX
  go_wp2_with fail
  go_loopw [12] (fun i wr => ∃ k : Nat, k ≤ m.cs.length ∧ i = .int .i64 k ∧ Below w.heap.size w wr ∧ wr.heap[w.heap.size + 1]? = some (.cells #[.int .i64 0, .int .i64 0, .int .i64 0] 47 (0, 0)) ∧ (∃ n, n ≤ k ∧ SetS wr (w.heap.size + 1 + 1) n (setL m.cs k)) ∧ ∀ j, j < k → ceAt m.cs j = true) (fun i _ => m.cs.length - (intOf i).toNat)
  case atStart => exact ⟨0, Nat.zero_le _, rfl, AB.out, AZ.out, ⟨0, Nat.le_refl _, AM.out⟩, fun j hj => absurd hj (Nat.not_lt_zero _)⟩
  case round =>
    obtain ⟨k, hk, rfl, hbw, hz, ⟨n, hn, hm⟩, hall⟩ := hrel
    have HW : Hid (Below w.heap.size w wr) := hbw
    have HZ : Hid (wr.heap[w.heap.size + 1]? = some (.cells #[.int .i64 0, .int .i64 0, .int .i64 0] 47 (0, 0))) := hz
    have HM : Hid (SetS wr (w.heap.size + 1 + 1) n (setL m.cs k)) := hm
    have HN : Hid (n ≤ k) := hn
    have AL : Hid (∀ j, j < k → ceAt m.cs j = true) := hall
    clear hz hm hn hall
    by_cases hlt : k < m.cs.length
    · obtain ⟨a, rfl⟩ := HA.out.some (by omega)
      obtain ⟨s, sv, se, _, rfl, sk⟩ := (HA.out.fr (w' := wr) (fun q hq => hbw.cell (HS.out _ hq))).el k hlt
      have e0 := sk.c0
      have e1 := sk.cp 0 _ rfl
      have e2 := sk.cp 1 _ rfl
      have e3 := sk.cp 2 _ rfl
      have e4 := sk.cp 3 _ rfl
      have e5 := sk.cp 4 _ rfl
      have e6 := sk.cp 5 _ rfl
      have e7 := sk.cp 6 _ rfl
      have e8 := sk.cp 7 _ rfl
      have e9 := sk.cp 8 _ rfl
      have e10 := sk.cp 9 _ rfl
      have ES : Hid (m.cs[k]? = some s) := se
      have OK : Hid (CeOk s) := HO.out s (List.mem_of_getElem? se)
      have LT : Hid (k < m.cs.length) := hlt
      have kl : (k : Int) < m.cs.length := by omega
      clear hbw se hlt sk
      have za := block_lt_of_cell e0
      have zm := HM.out.lt
      have CA : Hid (ceAt m.cs k = (ceB s && !((setL m.cs k).any (fun x => decide (x = s.ad))))) := by
        show _ = _
        rw [setL_any, Bool.not_not]
        unfold ceAt
        rw [ES.out]
      have KY := keyS s.ad (sh_max OK.out.2.2.2.2.2.2.2.2)
      have GA : Hid (∀ X : Obj, Below wr.heap.size wr (wr.alloc X)) := fun X => (Below.refl _ _).alloc (Nat.le_refl _) _
      have G2 : Hid (∀ X Y : Obj, Below wr.heap.size wr ((wr.alloc X).alloc Y)) := fun X Y => ((Below.refl _ _).alloc (Nat.le_refl _) _).alloc (by simp) _
      cases q : (setL m.cs k).any (fun x => decide (x = s.ad))
      case true =>
        have QQ : Hid _ := q
        rw [q, Bool.not_true, Bool.and_false] at CA
        clear q
        have ans : VV = .agg #[.int .i64 k, .int .i64 0, .int .i64 203] := by rw [← HV.out, fstN_some LT.out AL.out CA.out]; rfl
        have AN : Hid _ := ans
        clear ans
        have ZZ : Hid (∀ X Y : Obj, ((wr.alloc X).alloc Y).heap[w.heap.size + 1]? = some (.cells #[.int .i64 0, .int .i64 0, .int .i64 0] 47 (0, 0))) := fun X Y => ((G2.out X Y).block _ (blk_in HZ.out)).trans HZ.out
        go_wp2_with (first | (at_lookup; obtain ⟨D, h1, h2⟩ := HM.out.below (GA.out (.cells #[.int .u8 s.kd, .bool s.sb, .int .i64 s.lo, .int .i64 s.hi, .int .i64 s.mx, .int .u8 s.ik, .int .u64 s.ib, .string s.is, .bool s.kp, .int .i64 s.dr, .string s.ad] 56 (0, 0))); refine wpList_lookup_own_unit _ rfl _ _ 81 rfl 9 82 (Maps.string_keyed Tryz.underlying9) Tryz.underlying81 (zeroU _) (w.heap.size + 1 + 1) n D rfl h1 _ _ rfl KY ?_; rw [h2 s.ad, QQ.out]; clear h1 h2 D) | (refine wpList_store_row rfl 47 _ _ rfl (w.heap.size + 1) _ rfl rfl _ _ (ZZ.out _ _) fw_info rfl (by kernel_rfl) ?_))
        refine bodyPost_ret (v := .agg #[.int .i64 k, .int .i64 0, .int .i64 203]) (results_cell_row Tryz.results13 _ _ (w.heap.size + 1) _ _ (0, 0) _ (by first | rfl | simp [Act.put]) (setRow_heap _ _ _ _ _ _ (ZZ.out _ _)) Tryz.underlying47 rfl fw_info) rfl ?_
        exact ⟨by rw [AN.out], row_below (HW.out.trans ((G2.out _ _).mono HW.out.size)) (by omega) _⟩
      case false =>
        have QQ : Hid _ := q
        rw [q, Bool.not_false, Bool.and_true] at CA
        clear q
        have M1 : Hid (∀ W, Calls Tryz.prog 34 #[CeV s] W fun e w' => e = .returned (.bool (ceB s)) ∧ Below W.heap.size W w') := fun W => mayCell_of s OK.out W
        go_wp2_with ((at_lookup; obtain ⟨D, h1, h2⟩ := HM.out.below (GA.out (.cells #[.int .u8 s.kd, .bool s.sb, .int .i64 s.lo, .int .i64 s.hi, .int .i64 s.mx, .int .u8 s.ik, .int .u64 s.ib, .string s.is, .bool s.kp, .int .i64 s.dr, .string s.ad] 56 (0, 0))); refine wpList_lookup_own_unit _ rfl _ _ 81 rfl 9 82 (Maps.string_keyed Tryz.underlying9) Tryz.underlying81 (zeroU _) (w.heap.size + 1 + 1) n D rfl h1 _ _ rfl KY ?_; rw [h2 s.ad, QQ.out]; clear h1 h2 D))
        refine (M1.out _).mono ?_
        rintro e w5 ⟨rfl, hb⟩
        have B5 : Hid (Below wr.heap.size wr w5) := bl_tr (G2.out _ _) hb
        have X5 := (hb.block wr.heap.size (by simp; omega)).trans (tw_at wr _ _).1
        have Z5 : Hid (w5.heap[w.heap.size + 1]? = some (.cells #[.int .i64 0, .int .i64 0, .int .i64 0] 47 (0, 0))) := (B5.out.block _ (blk_in HZ.out)).trans HZ.out
        have S5 : Hid (SetS w5 (w.heap.size + 1 + 1) n (setL m.cs k)) := HM.out.below B5.out
        have k10 : w5.cell? ⟨wr.heap.size, 10, none⟩ = some (.string s.ad) := by simp [World.cell?, X5]
        clear hb X5 e0 e1 e2 e3 e4 e5 e6 e7 e8 e9 e10 za zm GA
        generalize ceB s = r at *
        cases r
        · have ans : VV = .agg #[.int .i64 k, .int .i64 0, .int .i64 203] := by rw [← HV.out, fstN_some LT.out AL.out CA.out]; rfl
          have AN : Hid _ := ans
          clear ans
          go_wp2_with (refine wpList_store_row rfl 47 _ _ rfl (w.heap.size + 1) _ rfl rfl _ _ Z5.out fw_info rfl (by kernel_rfl) ?_)
          refine bodyPost_ret (v := .agg #[.int .i64 k, .int .i64 0, .int .i64 203]) (results_cell_row Tryz.results13 _ _ (w.heap.size + 1) _ _ (0, 0) _ (by first | rfl | simp [Act.put]) (setRow_heap _ _ _ _ _ _ Z5.out) Tryz.underlying47 rfl fw_info) rfl ?_
          exact ⟨by rw [AN.out], row_below (HW.out.trans (B5.out.mono HW.out.size)) (by omega) _⟩
        · have ew : wrap64 ((k : Int) + 1) = (k : Int) + 1 := by have := HA.out.1; have := LT.out; unfold wrap64; omega
          have NX : Hid (∀ j, j < k + 1 → ceAt m.cs j = true) := fun j hj => by
            rcases Nat.lt_succ_iff_lt_or_eq.1 hj with h | rfl
            · exact AL.out j h
            · exact CA.out
          cases q : emB s.ad
          · have q1 : s.ad.toList.isEmpty = false := q
            have SY : Hid (setL m.cs (k + 1) = setL m.cs k ++ [s.ad]) := setL_yes m.cs k s ES.out q
            clear q
            go_wp2_with (at_mapUpdate; obtain ⟨D, h1, h2⟩ := S5.out; refine wpList_mapUpdate_own _ rfl _ _ _ 81 rfl 9 82 (Maps.string_keyed Tryz.underlying9) Tryz.underlying81 unitElem (w.heap.size + 1 + 1) n D rfl h1 (by have := HN.out; have := LT.out; have := HA.out.1; simp [maxLen]; omega) _ _ (.string s.ad.data.toList) rfl rfl KY (.agg []) [] unitElem_mk ?_; intro w7 t1 t2; have T1 : Hid (SetS w7 (w.heap.size + 1 + 1) (n + 1) (setL m.cs k ++ [s.ad])) := SetS.put h1 h2 s.ad t1; have T2 : Hid _ := t2; clear t1 t2 h1 h2 D)
            rw [ew]
            refine ⟨⟨k + 1, Nat.succ_le_of_lt LT.out, rfl, ?_, ?_, ⟨n + 1, Nat.succ_le_succ HN.out, by rw [SY.out]; exact T1.out⟩, NX.out⟩, msr LT.out⟩
            · exact (HW.out.trans (B5.out.mono HW.out.size)).grown T2.out (Nat.le_trans HW.out.size B5.out.size) (fun g e => by cases e; omega)
            · exact (T2.out.block _ (blk_in Z5.out) (by simp)).trans Z5.out
          · have q1 : s.ad.toList.isEmpty = true := q
            have SY : Hid (setL m.cs (k + 1) = setL m.cs k) := setL_no m.cs k s ES.out q
            clear q
            go_wp2
            rw [ew]
            exact ⟨⟨k + 1, Nat.succ_le_of_lt LT.out, rfl, HW.out.trans (B5.out.mono HW.out.size), Z5.out, ⟨n, Nat.le_succ_of_le HN.out, by rw [SY.out]; exact S5.out⟩, NX.out⟩, msr LT.out⟩
    · have kl : ¬ (k : Int) < m.cs.length := by omega
      have ek : k = m.cs.length := by omega
      subst ek
      have ans : VV = .agg #[.int .i64 0, .int .i64 0, .int .i64 0] := by rw [← HV.out, fstN_none AL.out]; rfl
      have AN : Hid _ := ans
      clear ans hbw hlt
      go_wp2_with (refine wpList_store_row rfl 47 _ _ rfl (w.heap.size + 1) _ rfl rfl _ _ HZ.out fw_info rfl (by kernel_rfl) ?_)
      refine bodyPost_ret (v := .agg #[.int .i64 0, .int .i64 0, .int .i64 0]) (results_cell_row Tryz.results13 _ _ (w.heap.size + 1) _ _ (0, 0) _ (by first | rfl | simp [Act.put]) (setRow_heap _ _ _ _ _ _ HZ.out) Tryz.underlying47 rfl fw_info) rfl ?_
      exact ⟨by rw [AN.out], row_below HW.out (by omega) _⟩
end Go.Proofs.YtkickdmomompjaaGreat
namespace Go.Proofs.YtkickdmomompjaaGreat
set_option linter.unusedVariables false
open Go.RowKit
def rdLp (bs : List Nat) (s : RS) : LpR × RS := (⟨(rdN bs s).1, (rdN bs (rdN bs s).2).1, (rdN bs (rdN bs (rdN bs s).2).2).1⟩, (rdN bs (rdN bs (rdN bs s).2).2).2)
theorem blk_in' {w : World} {k : Nat} {x : Obj} (h : w.heap[k]? = some x) : k < w.heap.size := by
  rcases Nat.lt_or_ge k w.heap.size with q | q
  · exact q
  · rw [Array.getElem?_eq_none q] at h; cases h
theorem Rd.lt {g kb o c : Nat} {bs : List Nat} {s : RS} {w : World} (h : Rd g kb o c bs s w) : g < w.heap.size := by
  have := h.at_
  unfold RdAt at this
  exact blk_in' this
theorem gb_alloc (w : World) (b : Obj) (r : Option Nat) : w.grownBy (w.alloc b) r := ⟨rfl, rfl, rfl, by rw [← World.alloc_eq]; simp, fun i hi _ => by rw [← World.alloc_eq]; show (w.heap.push b)[i]? = _; rw [Array.getElem?_push, if_neg (Nat.ne_of_lt hi)]⟩
theorem Rd.al {g kb o c : Nat} {bs : List Nat} {s : RS} {w : World} (h : Rd g kb o c bs s w) (b : Obj) : Rd g kb o c bs s (w.alloc b) := h.other (gb_alloc _ _ _) h.lt
theorem gb_setr {w V : World} {g r : Nat} (h : w.grownBy V (some g)) (hr : w.heap.size ≤ r) (j : Nat) (v : Value) : w.grownBy (V.setCell ⟨r, j, none⟩ v) (some g) :=
  ⟨h.os, h.tape, h.output, by simpa using h.size, fun k hk hn => (Below.heap_setCell _ _ _ _ (by show k ≠ r; omega)).trans (h.block k hk hn)⟩
theorem Rd.setr {g kb o c r : Nat} {bs : List Nat} {s : RS} {V : World} (h : Rd g kb o c bs s V) (hr : r ≠ g) (hk : r ≠ kb) (j : Nat) (v : Value) : Rd g kb o c bs s (V.setCell ⟨r, j, none⟩ v) :=
  ⟨by have := h.at_; unfold RdAt at *; rw [Below.heap_setCell _ _ _ _ (fun q => hr q.symm)]; exact this, fun i x hi => by
    have := h.by_ i x hi
    unfold World.cell? at *
    rw [Below.heap_setCell _ _ _ _ (fun q => hk q.symm)]
    exact this, h.le, h.n4, h.nc, h.ne, by simpa using h.kl, h.b8⟩
theorem gb_row {w V : World} {g r : Nat} (h : w.grownBy V (some g)) (hr : w.heap.size ≤ r) (vs : Array Value) : w.grownBy (V.setRow r vs) (some g) :=
  ⟨h.os, h.tape, h.output, by simpa [World.setRow] using h.size, fun k hk hn => (setRow_other _ _ _ _ (by omega)).trans (h.block k hk hn)⟩
theorem Rd.row {g kb o c r : Nat} {bs : List Nat} {s : RS} {V : World} (h : Rd g kb o c bs s V) (hr : r ≠ g) (hk : r ≠ kb) (vs : Array Value) : Rd g kb o c bs s (V.setRow r vs) :=
  ⟨by have := h.at_; unfold RdAt at *; rw [setRow_other _ _ _ _ (fun q => hr q.symm)]; exact this, fun i x hi => by
    have := h.by_ i x hi
    unfold World.cell? at *
    rw [setRow_other _ _ _ _ (fun q => hk q.symm)]
    exact this, h.le, h.n4, h.nc, h.ne, by simpa [World.setRow] using h.kl, h.b8⟩
set_option maxRecDepth 20000 in
set_option maxHeartbeats 8000000 in
theorem loopG (g kb o c : Nat) (bs : List Nat) (s s1 s2 s3 : RS) (v1 : Int) (v2 : Int) (v3 : Int) 
    (C1 : ∀ W, Rd g kb o c bs s W → Calls Tryz.prog 88 #[.pointer (some ⟨g, 0, none⟩)] W fun e w' => e = .returned (.int .i64 v1) ∧ Rd g kb o c bs s1 w' ∧ W.grownBy w' (some g))
    (C2 : ∀ W, Rd g kb o c bs s1 W → Calls Tryz.prog 88 #[.pointer (some ⟨g, 0, none⟩)] W fun e w' => e = .returned (.int .i64 v2) ∧ Rd g kb o c bs s2 w' ∧ W.grownBy w' (some g))
    (C3 : ∀ W, Rd g kb o c bs s2 W → Calls Tryz.prog 88 #[.pointer (some ⟨g, 0, none⟩)] W fun e w' => e = .returned (.int .i64 v3) ∧ Rd g kb o c bs s3 w' ∧ W.grownBy w' (some g))
    (w : World) (h : Rd g kb o c bs s w) :
    Calls Tryz.prog 93 #[.pointer (some ⟨g, 0, none⟩)] w fun e w' => e = .returned (.agg #[.int .i64 v1, .int .i64 v2, .int .i64 v3]) ∧ Rd g kb o c bs s3 w' ∧ w.grownBy w' (some g) := by
  obtain ⟨r, hr⟩ : ∃ r, w.heap.size = r := ⟨_, rfl⟩
  obtain ⟨AW, eW⟩ : ∃ AW, AW = w.alloc (.cells #[.int .i64 0, .int .i64 0, .int .i64 0] 103 (0, 0)) := ⟨_, rfl⟩
  have R0 : Hid (Rd g kb o c bs s AW) := by rw [eW]; exact h.al _
  have G0 : Hid (w.grownBy AW (some g)) := by rw [eW]; exact gb_alloc _ _ _
  have X0 : Hid (AW.heap[r]? = some (.cells #[.int .i64 0, .int .i64 0, .int .i64 0] 103 (0, 0))) := by rw [eW, ← hr]; exact heap_alloc_last _ _
  have NG : Hid (r ≠ g) := by have := h.lt; show r ≠ g; omega
  have RG : Hid (w.heap.size ≤ r) := by show _ ≤ _; omega
  have NK : Hid (r ≠ kb) := by have := h.kl; show r ≠ kb; omega
  have D1 : Hid _ := C1
  have D2 : Hid _ := C2
  have D3 : Hid _ := C3
  clear h C1 C2 C3
  go_enter Tryz.func93, Tryz.ntmps93
  go_upto_region 1 with fail
  rw [← eW]
  try rw [hr]
  clear eW hr
  go_wp2_with (go_at_call 88; refine (D1.out _ R0.out).mono ?_)
  first | (rintro e w1 ⟨he, h1, g1⟩; have he' := he) | (rintro e w1 he h1 g1)
  subst he
  have R1 : Hid (Rd g kb o c bs s1 w1) := h1
  have G1 : Hid (w.grownBy w1 (some g)) := gb_trans G0.out g1
  have X1 : Hid (w1.heap[r]? = some (.cells #[.int .i64 0, .int .i64 0, .int .i64 0] 103 (0, 0))) := (g1.block r (blk_in' X0.out) (by have := NG.out; intro q; cases q; exact this rfl)).trans X0.out
  clear h1 g1 R0 G0 X0 D1
  go_wp2_with (go_at_call 88; refine (D2.out _ R1.out).mono ?_)
  first | (rintro e w2 ⟨he, h1, g1⟩; have he' := he) | (rintro e w2 he h1 g1)
  subst he
  have R2 : Hid (Rd g kb o c bs s2 w2) := h1
  have G2 : Hid (w.grownBy w2 (some g)) := gb_trans G1.out g1
  have X2 : Hid (w2.heap[r]? = some (.cells #[.int .i64 0, .int .i64 0, .int .i64 0] 103 (0, 0))) := (g1.block r (blk_in' X1.out) (by have := NG.out; intro q; cases q; exact this rfl)).trans X1.out
  clear h1 g1 R1 G1 X1 D2
  go_wp2_with (go_at_call 88; refine (D3.out _ R2.out).mono ?_)
  first | (rintro e w3 ⟨he, h1, g1⟩; have he' := he) | (rintro e w3 he h1 g1)
  subst he
  have R3 : Hid (Rd g kb o c bs s3 w3) := h1
  have G3 : Hid (w.grownBy w3 (some g)) := gb_trans G2.out g1
  have X3 : Hid (w3.heap[r]? = some (.cells #[.int .i64 0, .int .i64 0, .int .i64 0] 103 (0, 0))) := (g1.block r (blk_in' X2.out) (by have := NG.out; intro q; cases q; exact this rfl)).trans X2.out
  clear h1 g1 R2 G2 X2 D3
  go_wp2_with (refine wpList_store_row rfl 103 _ _ rfl r _ rfl rfl _ _ X3.out (show (Tryz.prog.info? 103).map (·.size) = some 3 by kernel_rfl) rfl (by kernel_rfl) ?_)
  have hz := setRow_heap w3 r _ (#[.int .i64 v1, .int .i64 v2, .int .i64 v3]) _ _ X3.out
  refine bodyPost_ret (v := .agg #[.int .i64 v1, .int .i64 v2, .int .i64 v3]) (results_cell_row Tryz.results93 _ _ r _ _ (0, 0) _ (by first | rfl | simp [Act.put]) hz Tryz.underlying103 rfl (show (Tryz.prog.info? 103).map (·.size) = some 3 by kernel_rfl)) rfl ?_
  exact ⟨rfl, R3.out.row NG.out NK.out _, gb_row G3.out RG.out _⟩
set_option maxRecDepth 20000 in
set_option maxHeartbeats 8000000 in
theorem valueG (g kb o c : Nat) (bs : List Nat) (s s1 s2 s3 : RS) (v1 : Nat) (v2 : Int) (v3 : ByteArray) (u : Int) (hu : IntKind.u64.wrap v2 = u)
    (C1 : ∀ W, Rd g kb o c bs s W → Calls Tryz.prog 86 #[.pointer (some ⟨g, 0, none⟩)] W fun e w' => e = .returned (.int .u8 v1) ∧ Rd g kb o c bs s1 w' ∧ W.grownBy w' (some g))
    (C2 : ∀ W, Rd g kb o c bs s1 W → Calls Tryz.prog 88 #[.pointer (some ⟨g, 0, none⟩)] W fun e w' => e = .returned (.int .i64 v2) ∧ Rd g kb o c bs s2 w' ∧ W.grownBy w' (some g))
    (C3 : ∀ W, Rd g kb o c bs s2 W → Calls Tryz.prog 69 #[.pointer (some ⟨g, 0, none⟩)] W fun e w' => e = .returned (.string v3) ∧ Rd g kb o c bs s3 w' ∧ W.grownBy w' (some g))
    (w : World) (h : Rd g kb o c bs s w) :
    Calls Tryz.prog 89 #[.pointer (some ⟨g, 0, none⟩)] w fun e w' => e = .returned (.agg #[.int .u8 v1, .int .u64 u, .string v3]) ∧ Rd g kb o c bs s3 w' ∧ w.grownBy w' (some g) := by
  obtain ⟨r, hr⟩ : ∃ r, w.heap.size = r := ⟨_, rfl⟩
  obtain ⟨AW, eW⟩ : ∃ AW, AW = w.alloc (.cells #[.int .u8 0, .int .u64 0, .string ⟨#[]⟩] 54 (0, 0)) := ⟨_, rfl⟩
  have R0 : Hid (Rd g kb o c bs s AW) := by rw [eW]; exact h.al _
  have G0 : Hid (w.grownBy AW (some g)) := by rw [eW]; exact gb_alloc _ _ _
  have X0 : Hid (AW.heap[r]? = some (.cells #[.int .u8 0, .int .u64 0, .string ⟨#[]⟩] 54 (0, 0))) := by rw [eW, ← hr]; exact heap_alloc_last _ _
  have NG : Hid (r ≠ g) := by have := h.lt; show r ≠ g; omega
  have RG : Hid (w.heap.size ≤ r) := by show _ ≤ _; omega
  have NK : Hid (r ≠ kb) := by have := h.kl; show r ≠ kb; omega
  have D1 : Hid _ := C1
  have D2 : Hid _ := C2
  have D3 : Hid _ := C3
  clear h C1 C2 C3
  go_enter Tryz.func89, Tryz.ntmps89
  go_upto_region 1 with fail
  rw [← eW]
  try rw [hr]
  clear eW hr
  go_wp2_with (go_at_call 86; refine (D1.out _ R0.out).mono ?_)
  first | (rintro e w1 ⟨he, h1, g1⟩; have he' := he) | (rintro e w1 he h1 g1)
  subst he
  have R1 : Hid (Rd g kb o c bs s1 w1) := h1
  have G1 : Hid (w.grownBy w1 (some g)) := gb_trans G0.out g1
  have X1 : Hid (w1.heap[r]? = some (.cells #[.int .u8 0, .int .u64 0, .string ⟨#[]⟩] 54 (0, 0))) := (g1.block r (blk_in' X0.out) (by have := NG.out; intro q; cases q; exact this rfl)).trans X0.out
  clear h1 g1 R0 G0 X0 D1
  go_wp2_with (go_at_call 88; refine (D2.out _ R1.out).mono ?_)
  first | (rintro e w2 ⟨he, h1, g1⟩; have he' := he) | (rintro e w2 he h1 g1)
  subst he
  have R2 : Hid (Rd g kb o c bs s2 w2) := h1
  have G2 : Hid (w.grownBy w2 (some g)) := gb_trans G1.out g1
  have X2 : Hid (w2.heap[r]? = some (.cells #[.int .u8 0, .int .u64 0, .string ⟨#[]⟩] 54 (0, 0))) := (g1.block r (blk_in' X1.out) (by have := NG.out; intro q; cases q; exact this rfl)).trans X1.out
  clear h1 g1 R1 G1 X1 D2
  go_wp2_with (go_at_call 69; refine (D3.out _ R2.out).mono ?_)
  first | (rintro e w3 ⟨he, h1, g1⟩; have he' := he) | (rintro e w3 he h1 g1)
  subst he
  have R3 : Hid (Rd g kb o c bs s3 w3) := h1
  have G3 : Hid (w.grownBy w3 (some g)) := gb_trans G2.out g1
  have X3 : Hid (w3.heap[r]? = some (.cells #[.int .u8 0, .int .u64 0, .string ⟨#[]⟩] 54 (0, 0))) := (g1.block r (blk_in' X2.out) (by have := NG.out; intro q; cases q; exact this rfl)).trans X2.out
  clear h1 g1 R2 G2 X2 D3
  go_wp2_with (refine wpList_store_row rfl 54 _ _ rfl r _ rfl rfl _ _ X3.out (show (Tryz.prog.info? 54).map (·.size) = some 3 by kernel_rfl) rfl (by kernel_rfl) ?_)
  have hz := setRow_heap w3 r _ (#[.int .u8 v1, .int .u64 u, .string v3]) _ _ X3.out
  refine bodyPost_ret (v := .agg #[.int .u8 v1, .int .u64 u, .string v3]) (results_cell_row Tryz.results89 _ _ r _ _ (0, 0) _ (by first | rfl | simp [Act.put]) hz Tryz.underlying54 rfl (show (Tryz.prog.info? 54).map (·.size) = some 3 by kernel_rfl)) rfl ?_
  exact ⟨rfl, R3.out.row NG.out NK.out _, gb_row G3.out RG.out _⟩
set_option maxRecDepth 20000 in
set_option maxHeartbeats 8000000 in
theorem opG (g kb o c : Nat) (bs : List Nat) (s s1 s2 s3 s4 s5 s6 s7 s8 : RS) (v1 : Int) (v2 : Int) (v3 : Int) (v4 : Int) (v5 : Int) (v6 : Int) (v7 : Int) (v8 : Nat × Int × ByteArray) 
    (C1 : ∀ W, Rd g kb o c bs s W → Calls Tryz.prog 88 #[.pointer (some ⟨g, 0, none⟩)] W fun e w' => e = .returned (.int .i64 v1) ∧ Rd g kb o c bs s1 w' ∧ W.grownBy w' (some g))
    (C2 : ∀ W, Rd g kb o c bs s1 W → Calls Tryz.prog 88 #[.pointer (some ⟨g, 0, none⟩)] W fun e w' => e = .returned (.int .i64 v2) ∧ Rd g kb o c bs s2 w' ∧ W.grownBy w' (some g))
    (C3 : ∀ W, Rd g kb o c bs s2 W → Calls Tryz.prog 88 #[.pointer (some ⟨g, 0, none⟩)] W fun e w' => e = .returned (.int .i64 v3) ∧ Rd g kb o c bs s3 w' ∧ W.grownBy w' (some g))
    (C4 : ∀ W, Rd g kb o c bs s3 W → Calls Tryz.prog 88 #[.pointer (some ⟨g, 0, none⟩)] W fun e w' => e = .returned (.int .i64 v4) ∧ Rd g kb o c bs s4 w' ∧ W.grownBy w' (some g))
    (C5 : ∀ W, Rd g kb o c bs s4 W → Calls Tryz.prog 88 #[.pointer (some ⟨g, 0, none⟩)] W fun e w' => e = .returned (.int .i64 v5) ∧ Rd g kb o c bs s5 w' ∧ W.grownBy w' (some g))
    (C6 : ∀ W, Rd g kb o c bs s5 W → Calls Tryz.prog 88 #[.pointer (some ⟨g, 0, none⟩)] W fun e w' => e = .returned (.int .i64 v6) ∧ Rd g kb o c bs s6 w' ∧ W.grownBy w' (some g))
    (C7 : ∀ W, Rd g kb o c bs s6 W → Calls Tryz.prog 88 #[.pointer (some ⟨g, 0, none⟩)] W fun e w' => e = .returned (.int .i64 v7) ∧ Rd g kb o c bs s7 w' ∧ W.grownBy w' (some g))
    (C8 : ∀ W, Rd g kb o c bs s7 W → Calls Tryz.prog 89 #[.pointer (some ⟨g, 0, none⟩)] W fun e w' => e = .returned (.agg #[.int .u8 v8.1, .int .u64 v8.2.1, .string v8.2.2]) ∧ Rd g kb o c bs s8 w' ∧ W.grownBy w' (some g))
    (w : World) (h : Rd g kb o c bs s w) :
    Calls Tryz.prog 91 #[.pointer (some ⟨g, 0, none⟩)] w fun e w' => e = .returned (.agg #[.int .i64 v1, .int .i64 v2, .int .i64 v3, .int .i64 v4, .int .i64 v5, .int .i64 v6, .int .i64 v7, .int .u8 v8.1, .int .u64 v8.2.1, .string v8.2.2]) ∧ Rd g kb o c bs s8 w' ∧ w.grownBy w' (some g) := by
  obtain ⟨r, hr⟩ : ∃ r, w.heap.size = r := ⟨_, rfl⟩
  obtain ⟨AW, eW⟩ : ∃ AW, AW = w.alloc (.cells #[.int .i64 0, .int .i64 0, .int .i64 0, .int .i64 0, .int .i64 0, .int .i64 0, .int .i64 0, .int .u8 0, .int .u64 0, .string ⟨#[]⟩] 88 (0, 0)) := ⟨_, rfl⟩
  have R0 : Hid (Rd g kb o c bs s AW) := by rw [eW]; exact h.al _
  have G0 : Hid (w.grownBy AW (some g)) := by rw [eW]; exact gb_alloc _ _ _
  have X0 : Hid (AW.heap[r]? = some (.cells #[.int .i64 0, .int .i64 0, .int .i64 0, .int .i64 0, .int .i64 0, .int .i64 0, .int .i64 0, .int .u8 0, .int .u64 0, .string ⟨#[]⟩] 88 (0, 0))) := by rw [eW, ← hr]; exact heap_alloc_last _ _
  have NG : Hid (r ≠ g) := by have := h.lt; show r ≠ g; omega
  have RG : Hid (w.heap.size ≤ r) := by show _ ≤ _; omega
  have NK : Hid (r ≠ kb) := by have := h.kl; show r ≠ kb; omega
  have D1 : Hid _ := C1
  have D2 : Hid _ := C2
  have D3 : Hid _ := C3
  have D4 : Hid _ := C4
  have D5 : Hid _ := C5
  have D6 : Hid _ := C6
  have D7 : Hid _ := C7
  have D8 : Hid _ := C8
  clear h C1 C2 C3 C4 C5 C6 C7 C8
  go_enter Tryz.func91, Tryz.ntmps91
  go_upto_region 1 with fail
  rw [← eW]
  try rw [hr]
  clear eW hr
  go_wp2_with (go_at_call 88; refine (D1.out _ R0.out).mono ?_)
  first | (rintro e w1 ⟨he, h1, g1⟩; have he' := he) | (rintro e w1 he h1 g1)
  subst he
  have R1 : Hid (Rd g kb o c bs s1 w1) := h1
  have G1 : Hid (w.grownBy w1 (some g)) := gb_trans G0.out g1
  have X1 : Hid (w1.heap[r]? = some (.cells #[.int .i64 0, .int .i64 0, .int .i64 0, .int .i64 0, .int .i64 0, .int .i64 0, .int .i64 0, .int .u8 0, .int .u64 0, .string ⟨#[]⟩] 88 (0, 0))) := (g1.block r (blk_in' X0.out) (by have := NG.out; intro q; cases q; exact this rfl)).trans X0.out
  clear h1 g1 R0 G0 X0 D1
  go_wp2_with (go_at_call 88; refine (D2.out _ R1.out).mono ?_)
  first | (rintro e w2 ⟨he, h1, g1⟩; have he' := he) | (rintro e w2 he h1 g1)
  subst he
  have R2 : Hid (Rd g kb o c bs s2 w2) := h1
  have G2 : Hid (w.grownBy w2 (some g)) := gb_trans G1.out g1
  have X2 : Hid (w2.heap[r]? = some (.cells #[.int .i64 0, .int .i64 0, .int .i64 0, .int .i64 0, .int .i64 0, .int .i64 0, .int .i64 0, .int .u8 0, .int .u64 0, .string ⟨#[]⟩] 88 (0, 0))) := (g1.block r (blk_in' X1.out) (by have := NG.out; intro q; cases q; exact this rfl)).trans X1.out
  clear h1 g1 R1 G1 X1 D2
  go_wp2_with (go_at_call 88; refine (D3.out _ R2.out).mono ?_)
  first | (rintro e w3 ⟨he, h1, g1⟩; have he' := he) | (rintro e w3 he h1 g1)
  subst he
  have R3 : Hid (Rd g kb o c bs s3 w3) := h1
  have G3 : Hid (w.grownBy w3 (some g)) := gb_trans G2.out g1
  have X3 : Hid (w3.heap[r]? = some (.cells #[.int .i64 0, .int .i64 0, .int .i64 0, .int .i64 0, .int .i64 0, .int .i64 0, .int .i64 0, .int .u8 0, .int .u64 0, .string ⟨#[]⟩] 88 (0, 0))) := (g1.block r (blk_in' X2.out) (by have := NG.out; intro q; cases q; exact this rfl)).trans X2.out
  clear h1 g1 R2 G2 X2 D3
  go_wp2_with (go_at_call 88; refine (D4.out _ R3.out).mono ?_)
  first | (rintro e w4 ⟨he, h1, g1⟩; have he' := he) | (rintro e w4 he h1 g1)
  subst he
  have R4 : Hid (Rd g kb o c bs s4 w4) := h1
  have G4 : Hid (w.grownBy w4 (some g)) := gb_trans G3.out g1
  have X4 : Hid (w4.heap[r]? = some (.cells #[.int .i64 0, .int .i64 0, .int .i64 0, .int .i64 0, .int .i64 0, .int .i64 0, .int .i64 0, .int .u8 0, .int .u64 0, .string ⟨#[]⟩] 88 (0, 0))) := (g1.block r (blk_in' X3.out) (by have := NG.out; intro q; cases q; exact this rfl)).trans X3.out
  clear h1 g1 R3 G3 X3 D4
  go_wp2_with (go_at_call 88; refine (D5.out _ R4.out).mono ?_)
  first | (rintro e w5 ⟨he, h1, g1⟩; have he' := he) | (rintro e w5 he h1 g1)
  subst he
  have R5 : Hid (Rd g kb o c bs s5 w5) := h1
  have G5 : Hid (w.grownBy w5 (some g)) := gb_trans G4.out g1
  have X5 : Hid (w5.heap[r]? = some (.cells #[.int .i64 0, .int .i64 0, .int .i64 0, .int .i64 0, .int .i64 0, .int .i64 0, .int .i64 0, .int .u8 0, .int .u64 0, .string ⟨#[]⟩] 88 (0, 0))) := (g1.block r (blk_in' X4.out) (by have := NG.out; intro q; cases q; exact this rfl)).trans X4.out
  clear h1 g1 R4 G4 X4 D5
  go_wp2_with (go_at_call 88; refine (D6.out _ R5.out).mono ?_)
  first | (rintro e w6 ⟨he, h1, g1⟩; have he' := he) | (rintro e w6 he h1 g1)
  subst he
  have R6 : Hid (Rd g kb o c bs s6 w6) := h1
  have G6 : Hid (w.grownBy w6 (some g)) := gb_trans G5.out g1
  have X6 : Hid (w6.heap[r]? = some (.cells #[.int .i64 0, .int .i64 0, .int .i64 0, .int .i64 0, .int .i64 0, .int .i64 0, .int .i64 0, .int .u8 0, .int .u64 0, .string ⟨#[]⟩] 88 (0, 0))) := (g1.block r (blk_in' X5.out) (by have := NG.out; intro q; cases q; exact this rfl)).trans X5.out
  clear h1 g1 R5 G5 X5 D6
  go_wp2_with (go_at_call 88; refine (D7.out _ R6.out).mono ?_)
  first | (rintro e w7 ⟨he, h1, g1⟩; have he' := he) | (rintro e w7 he h1 g1)
  subst he
  have R7 : Hid (Rd g kb o c bs s7 w7) := h1
  have G7 : Hid (w.grownBy w7 (some g)) := gb_trans G6.out g1
  have X7 : Hid (w7.heap[r]? = some (.cells #[.int .i64 0, .int .i64 0, .int .i64 0, .int .i64 0, .int .i64 0, .int .i64 0, .int .i64 0, .int .u8 0, .int .u64 0, .string ⟨#[]⟩] 88 (0, 0))) := (g1.block r (blk_in' X6.out) (by have := NG.out; intro q; cases q; exact this rfl)).trans X6.out
  clear h1 g1 R6 G6 X6 D7
  go_wp2_with (go_at_call 89; refine (D8.out _ R7.out).mono ?_)
  first | (rintro e w8 ⟨he, h1, g1⟩; have he' := he) | (rintro e w8 he h1 g1)
  subst he
  have R8 : Hid (Rd g kb o c bs s8 w8) := h1
  have G8 : Hid (w.grownBy w8 (some g)) := gb_trans G7.out g1
  have X8 : Hid (w8.heap[r]? = some (.cells #[.int .i64 0, .int .i64 0, .int .i64 0, .int .i64 0, .int .i64 0, .int .i64 0, .int .i64 0, .int .u8 0, .int .u64 0, .string ⟨#[]⟩] 88 (0, 0))) := (g1.block r (blk_in' X7.out) (by have := NG.out; intro q; cases q; exact this rfl)).trans X7.out
  clear h1 g1 R7 G7 X7 D8
  go_wp2_with (refine wpList_store_row rfl 88 _ _ rfl r _ rfl rfl _ _ X8.out (show (Tryz.prog.info? 88).map (·.size) = some 10 by kernel_rfl) rfl (by kernel_rfl) ?_)
  have hz := setRow_heap w8 r _ (#[.int .i64 v1, .int .i64 v2, .int .i64 v3, .int .i64 v4, .int .i64 v5, .int .i64 v6, .int .i64 v7, .int .u8 v8.1, .int .u64 v8.2.1, .string v8.2.2]) _ _ X8.out
  refine bodyPost_ret (v := .agg #[.int .i64 v1, .int .i64 v2, .int .i64 v3, .int .i64 v4, .int .i64 v5, .int .i64 v6, .int .i64 v7, .int .u8 v8.1, .int .u64 v8.2.1, .string v8.2.2]) (results_cell_row Tryz.results91 _ _ r _ _ (0, 0) _ (by first | rfl | simp [Act.put]) hz Tryz.underlying88 rfl (show (Tryz.prog.info? 88).map (·.size) = some 10 by kernel_rfl)) rfl ?_
  exact ⟨rfl, R8.out.row NG.out NK.out _, gb_row G8.out RG.out _⟩
set_option maxRecDepth 20000 in
set_option maxHeartbeats 8000000 in
theorem cellG (g kb o c : Nat) (bs : List Nat) (s s1 s2 s3 s4 s5 s6 s7 s8 s9 : RS) (v1 : Nat) (v2 : Bool) (v3 : Int) (v4 : Int) (v5 : Int) (v6 : Nat × Int × ByteArray) (v7 : Bool) (v8 : Nat) (v9 : ByteArray) (h8 : wrap64 (v8 : Int) = (v8 : Int))
    (C1 : ∀ W, Rd g kb o c bs s W → Calls Tryz.prog 86 #[.pointer (some ⟨g, 0, none⟩)] W fun e w' => e = .returned (.int .u8 v1) ∧ Rd g kb o c bs s1 w' ∧ W.grownBy w' (some g))
    (C2 : ∀ W, Rd g kb o c bs s1 W → Calls Tryz.prog 87 #[.pointer (some ⟨g, 0, none⟩)] W fun e w' => e = .returned (.bool v2) ∧ Rd g kb o c bs s2 w' ∧ W.grownBy w' (some g))
    (C3 : ∀ W, Rd g kb o c bs s2 W → Calls Tryz.prog 88 #[.pointer (some ⟨g, 0, none⟩)] W fun e w' => e = .returned (.int .i64 v3) ∧ Rd g kb o c bs s3 w' ∧ W.grownBy w' (some g))
    (C4 : ∀ W, Rd g kb o c bs s3 W → Calls Tryz.prog 88 #[.pointer (some ⟨g, 0, none⟩)] W fun e w' => e = .returned (.int .i64 v4) ∧ Rd g kb o c bs s4 w' ∧ W.grownBy w' (some g))
    (C5 : ∀ W, Rd g kb o c bs s4 W → Calls Tryz.prog 88 #[.pointer (some ⟨g, 0, none⟩)] W fun e w' => e = .returned (.int .i64 v5) ∧ Rd g kb o c bs s5 w' ∧ W.grownBy w' (some g))
    (C6 : ∀ W, Rd g kb o c bs s5 W → Calls Tryz.prog 89 #[.pointer (some ⟨g, 0, none⟩)] W fun e w' => e = .returned (.agg #[.int .u8 v6.1, .int .u64 v6.2.1, .string v6.2.2]) ∧ Rd g kb o c bs s6 w' ∧ W.grownBy w' (some g))
    (C7 : ∀ W, Rd g kb o c bs s6 W → Calls Tryz.prog 87 #[.pointer (some ⟨g, 0, none⟩)] W fun e w' => e = .returned (.bool v7) ∧ Rd g kb o c bs s7 w' ∧ W.grownBy w' (some g))
    (C8 : ∀ W, Rd g kb o c bs s7 W → Calls Tryz.prog 86 #[.pointer (some ⟨g, 0, none⟩)] W fun e w' => e = .returned (.int .u8 v8) ∧ Rd g kb o c bs s8 w' ∧ W.grownBy w' (some g))
    (C9 : ∀ W, Rd g kb o c bs s8 W → Calls Tryz.prog 69 #[.pointer (some ⟨g, 0, none⟩)] W fun e w' => e = .returned (.string v9) ∧ Rd g kb o c bs s9 w' ∧ W.grownBy w' (some g))
    (w : World) (h : Rd g kb o c bs s w) :
    Calls Tryz.prog 71 #[.pointer (some ⟨g, 0, none⟩)] w fun e w' => e = .returned (.agg #[.int .u8 v1, .bool v2, .int .i64 v3, .int .i64 v4, .int .i64 v5, .int .u8 v6.1, .int .u64 v6.2.1, .string v6.2.2, .bool v7, .int .i64 v8, .string v9]) ∧ Rd g kb o c bs s9 w' ∧ w.grownBy w' (some g) := by
  obtain ⟨r, hr⟩ : ∃ r, w.heap.size = r := ⟨_, rfl⟩
  obtain ⟨AW, eW⟩ : ∃ AW, AW = w.alloc (.cells #[.int .u8 0, .bool false, .int .i64 0, .int .i64 0, .int .i64 0, .int .u8 0, .int .u64 0, .string ⟨#[]⟩, .bool false, .int .i64 0, .string ⟨#[]⟩] 56 (0, 0)) := ⟨_, rfl⟩
  have R0 : Hid (Rd g kb o c bs s AW) := by rw [eW]; exact h.al _
  have G0 : Hid (w.grownBy AW (some g)) := by rw [eW]; exact gb_alloc _ _ _
  have X0 : Hid (AW.heap[r]? = some (.cells #[.int .u8 0, .bool false, .int .i64 0, .int .i64 0, .int .i64 0, .int .u8 0, .int .u64 0, .string ⟨#[]⟩, .bool false, .int .i64 0, .string ⟨#[]⟩] 56 (0, 0))) := by rw [eW, ← hr]; exact heap_alloc_last _ _
  have NG : Hid (r ≠ g) := by have := h.lt; show r ≠ g; omega
  have RG : Hid (w.heap.size ≤ r) := by show _ ≤ _; omega
  have NK : Hid (r ≠ kb) := by have := h.kl; show r ≠ kb; omega
  have D1 : Hid _ := C1
  have D2 : Hid _ := C2
  have D3 : Hid _ := C3
  have D4 : Hid _ := C4
  have D5 : Hid _ := C5
  have D6 : Hid _ := C6
  have D7 : Hid _ := C7
  have D8 : Hid _ := C8
  have D9 : Hid _ := C9
  clear h C1 C2 C3 C4 C5 C6 C7 C8 C9
  go_enter Tryz.func71, Tryz.ntmps71
  go_upto_region 1 with fail
  rw [← eW]
  try rw [hr]
  clear eW hr
  go_wp2_with (go_at_call 86; refine (D1.out _ R0.out).mono ?_)
  first | (rintro e w1 ⟨he, h1, g1⟩; have he' := he) | (rintro e w1 he h1 g1)
  subst he
  have R1 : Hid (Rd g kb o c bs s1 w1) := h1
  have G1 : Hid (w.grownBy w1 (some g)) := gb_trans G0.out g1
  have X1 : Hid (w1.heap[r]? = some (.cells #[.int .u8 0, .bool false, .int .i64 0, .int .i64 0, .int .i64 0, .int .u8 0, .int .u64 0, .string ⟨#[]⟩, .bool false, .int .i64 0, .string ⟨#[]⟩] 56 (0, 0))) := (g1.block r (blk_in' X0.out) (by have := NG.out; intro q; cases q; exact this rfl)).trans X0.out
  clear h1 g1 R0 G0 X0 D1
  go_wp2_with (go_at_call 87; refine (D2.out _ R1.out).mono ?_)
  first | (rintro e w2 ⟨he, h1, g1⟩; have he' := he) | (rintro e w2 he h1 g1)
  subst he
  have R2 : Hid (Rd g kb o c bs s2 w2) := h1
  have G2 : Hid (w.grownBy w2 (some g)) := gb_trans G1.out g1
  have X2 : Hid (w2.heap[r]? = some (.cells #[.int .u8 0, .bool false, .int .i64 0, .int .i64 0, .int .i64 0, .int .u8 0, .int .u64 0, .string ⟨#[]⟩, .bool false, .int .i64 0, .string ⟨#[]⟩] 56 (0, 0))) := (g1.block r (blk_in' X1.out) (by have := NG.out; intro q; cases q; exact this rfl)).trans X1.out
  clear h1 g1 R1 G1 X1 D2
  go_wp2_with (go_at_call 88; refine (D3.out _ R2.out).mono ?_)
  first | (rintro e w3 ⟨he, h1, g1⟩; have he' := he) | (rintro e w3 he h1 g1)
  subst he
  have R3 : Hid (Rd g kb o c bs s3 w3) := h1
  have G3 : Hid (w.grownBy w3 (some g)) := gb_trans G2.out g1
  have X3 : Hid (w3.heap[r]? = some (.cells #[.int .u8 0, .bool false, .int .i64 0, .int .i64 0, .int .i64 0, .int .u8 0, .int .u64 0, .string ⟨#[]⟩, .bool false, .int .i64 0, .string ⟨#[]⟩] 56 (0, 0))) := (g1.block r (blk_in' X2.out) (by have := NG.out; intro q; cases q; exact this rfl)).trans X2.out
  clear h1 g1 R2 G2 X2 D3
  go_wp2_with (go_at_call 88; refine (D4.out _ R3.out).mono ?_)
  first | (rintro e w4 ⟨he, h1, g1⟩; have he' := he) | (rintro e w4 he h1 g1)
  subst he
  have R4 : Hid (Rd g kb o c bs s4 w4) := h1
  have G4 : Hid (w.grownBy w4 (some g)) := gb_trans G3.out g1
  have X4 : Hid (w4.heap[r]? = some (.cells #[.int .u8 0, .bool false, .int .i64 0, .int .i64 0, .int .i64 0, .int .u8 0, .int .u64 0, .string ⟨#[]⟩, .bool false, .int .i64 0, .string ⟨#[]⟩] 56 (0, 0))) := (g1.block r (blk_in' X3.out) (by have := NG.out; intro q; cases q; exact this rfl)).trans X3.out
  clear h1 g1 R3 G3 X3 D4
  go_wp2_with (go_at_call 88; refine (D5.out _ R4.out).mono ?_)
  first | (rintro e w5 ⟨he, h1, g1⟩; have he' := he) | (rintro e w5 he h1 g1)
  subst he
  have R5 : Hid (Rd g kb o c bs s5 w5) := h1
  have G5 : Hid (w.grownBy w5 (some g)) := gb_trans G4.out g1
  have X5 : Hid (w5.heap[r]? = some (.cells #[.int .u8 0, .bool false, .int .i64 0, .int .i64 0, .int .i64 0, .int .u8 0, .int .u64 0, .string ⟨#[]⟩, .bool false, .int .i64 0, .string ⟨#[]⟩] 56 (0, 0))) := (g1.block r (blk_in' X4.out) (by have := NG.out; intro q; cases q; exact this rfl)).trans X4.out
  clear h1 g1 R4 G4 X4 D5
  go_wp2_with (go_at_call 89; refine (D6.out _ R5.out).mono ?_)
  first | (rintro e w6 ⟨he, h1, g1⟩; have he' := he) | (rintro e w6 he h1 g1)
  subst he
  have R6 : Hid (Rd g kb o c bs s6 w6) := h1
  have G6 : Hid (w.grownBy w6 (some g)) := gb_trans G5.out g1
  have X6 : Hid (w6.heap[r]? = some (.cells #[.int .u8 0, .bool false, .int .i64 0, .int .i64 0, .int .i64 0, .int .u8 0, .int .u64 0, .string ⟨#[]⟩, .bool false, .int .i64 0, .string ⟨#[]⟩] 56 (0, 0))) := (g1.block r (blk_in' X5.out) (by have := NG.out; intro q; cases q; exact this rfl)).trans X5.out
  clear h1 g1 R5 G5 X5 D6
  go_wp2_with (go_at_call 87; refine (D7.out _ R6.out).mono ?_)
  first | (rintro e w7 ⟨he, h1, g1⟩; have he' := he) | (rintro e w7 he h1 g1)
  subst he
  have R7 : Hid (Rd g kb o c bs s7 w7) := h1
  have G7 : Hid (w.grownBy w7 (some g)) := gb_trans G6.out g1
  have X7 : Hid (w7.heap[r]? = some (.cells #[.int .u8 0, .bool false, .int .i64 0, .int .i64 0, .int .i64 0, .int .u8 0, .int .u64 0, .string ⟨#[]⟩, .bool false, .int .i64 0, .string ⟨#[]⟩] 56 (0, 0))) := (g1.block r (blk_in' X6.out) (by have := NG.out; intro q; cases q; exact this rfl)).trans X6.out
  clear h1 g1 R6 G6 X6 D7
  go_wp2_with (go_at_call 86; refine (D8.out _ R7.out).mono ?_)
  first | (rintro e w8 ⟨he, h1, g1⟩; have he' := he) | (rintro e w8 he h1 g1)
  subst he
  have R8 : Hid (Rd g kb o c bs s8 w8) := h1
  have G8 : Hid (w.grownBy w8 (some g)) := gb_trans G7.out g1
  have X8 : Hid (w8.heap[r]? = some (.cells #[.int .u8 0, .bool false, .int .i64 0, .int .i64 0, .int .i64 0, .int .u8 0, .int .u64 0, .string ⟨#[]⟩, .bool false, .int .i64 0, .string ⟨#[]⟩] 56 (0, 0))) := (g1.block r (blk_in' X7.out) (by have := NG.out; intro q; cases q; exact this rfl)).trans X7.out
  clear h1 g1 R7 G7 X7 D8
  go_wp2_with (go_at_call 69; refine (D9.out _ R8.out).mono ?_)
  first | (rintro e w9 ⟨he, h1, g1⟩; have he' := he) | (rintro e w9 he h1 g1)
  subst he
  have R9 : Hid (Rd g kb o c bs s9 w9) := h1
  have G9 : Hid (w.grownBy w9 (some g)) := gb_trans G8.out g1
  have X9 : Hid (w9.heap[r]? = some (.cells #[.int .u8 0, .bool false, .int .i64 0, .int .i64 0, .int .i64 0, .int .u8 0, .int .u64 0, .string ⟨#[]⟩, .bool false, .int .i64 0, .string ⟨#[]⟩] 56 (0, 0))) := (g1.block r (blk_in' X8.out) (by have := NG.out; intro q; cases q; exact this rfl)).trans X8.out
  clear h1 g1 R8 G8 X8 D9
  go_wp2_with (refine wpList_store_row rfl 56 _ _ rfl r _ rfl rfl _ _ X9.out (show (Tryz.prog.info? 56).map (·.size) = some 11 by kernel_rfl) rfl (by kernel_rfl) ?_)
  have hz := setRow_heap w9 r _ (#[.int .u8 v1, .bool v2, .int .i64 v3, .int .i64 v4, .int .i64 v5, .int .u8 v6.1, .int .u64 v6.2.1, .string v6.2.2, .bool v7, .int .i64 v8, .string v9]) _ _ X9.out
  refine bodyPost_ret (v := .agg #[.int .u8 v1, .bool v2, .int .i64 v3, .int .i64 v4, .int .i64 v5, .int .u8 v6.1, .int .u64 v6.2.1, .string v6.2.2, .bool v7, .int .i64 v8, .string v9]) (results_cell_row Tryz.results71 _ _ r _ _ (0, 0) _ (by first | rfl | simp [Act.put]) hz Tryz.underlying56 rfl (show (Tryz.prog.info? 56).map (·.size) = some 11 by kernel_rfl)) rfl ?_
  exact ⟨rfl, R9.out.row NG.out NK.out _, gb_row G9.out RG.out _⟩
end Go.Proofs.YtkickdmomompjaaGreat
namespace Go.Proofs.YtkickdmomompjaaGreat
set_option linter.unusedVariables false
open Go.RowKit
/-- What so many readings read, up to the first fault. -/
def rdKL {α : Type} (rd : RS → α × RS) : Nat → RS → List α
  | 0, _ => []
  | k + 1, s => if s.y = 0 then (rd s).1 :: rdKL rd k (rd s).2 else []
/-- Where they end. -/
def rdKS {α : Type} (rd : RS → α × RS) : Nat → RS → RS
  | 0, s => s
  | k + 1, s => if s.y = 0 then rdKS rd k (rd s).2 else s
theorem rdKL_bad {α : Type} (rd : RS → α × RS) (k : Nat) {s : RS} (h : s.y ≠ 0) : rdKL rd k s = [] := by
  cases k with
  | zero => rfl
  | succ k => show (if s.y = 0 then _ else _) = _; rw [if_neg h]
theorem rdKS_bad {α : Type} (rd : RS → α × RS) (k : Nat) {s : RS} (h : s.y ≠ 0) : rdKS rd k s = s := by
  cases k with
  | zero => rfl
  | succ k => show (if s.y = 0 then _ else _) = _; rw [if_neg h]
theorem rdKL_len {α : Type} (rd : RS → α × RS) : ∀ (k : Nat) (s : RS), (rdKL rd k s).length ≤ k
  | 0, _ => Nat.le_refl _
  | k + 1, s => by
    show (if s.y = 0 then (rd s).1 :: rdKL rd k (rd s).2 else []).length ≤ _
    split
    · rw [List.length_cons]; exact Nat.succ_le_succ (rdKL_len rd k _)
    · exact Nat.zero_le _
/-- A list with its length ahead. -/
def rdL {α : Type} (rd : RS → α × RS) (bs : List Nat) (s : RS) : List α × RS := (rdKL rd (rdC bs s).1.toNat (rdC bs s).2, rdKS rd (rdC bs s).1.toNat (rdC bs s).2)
/-- Behind k readings of N. -/
def LsI {α : Type} (rd : RS → α × RS) (N : Nat) (s0 : RS) (k : Nat) (s : RS) : Prop :=
  k ≤ N ∧ (rdKL rd N s0).drop k = rdKL rd (N - k) s ∧ k ≤ (rdKL rd N s0).length ∧ rdKS rd N s0 = rdKS rd (N - k) s ∧ (s0.y = 0 ∨ s = s0)
section
variable {α : Type} {rd : RS → α × RS} {N k : Nat} {s0 s : RS}
theorem LsI.zero : LsI rd N s0 0 s0 := ⟨Nat.zero_le _, rfl, Nat.zero_le _, rfl, Or.inr rfl⟩
theorem LsI.ok (h : LsI rd N s0 k s) (hy : s.y = 0) : s0.y = 0 := by
  rcases h.2.2.2.2 with q | q
  · exact q
  · rw [← q]; exact hy
theorem LsI.get (h : LsI rd N s0 k s) (hk : k < N) (hy : s.y = 0) : (rdKL rd N s0)[k]? = some (rd s).1 := by
  obtain ⟨h1, h2, h3, h4, h5⟩ := h
  have e : (rdKL rd N s0)[k]? = ((rdKL rd N s0).drop k)[0]? := by rw [List.getElem?_drop, Nat.add_zero]
  rw [e, h2]
  obtain ⟨m, hm⟩ : ∃ m, N - k = m + 1 := ⟨N - k - 1, by omega⟩
  rw [hm]
  show (if s.y = 0 then _ else _)[0]? = _
  rw [if_pos hy]
  rfl
theorem LsI.next (h : LsI rd N s0 k s) (hk : k < N) (hy : s.y = 0) : LsI rd N s0 (k + 1) (rd s).2 := by
  have g := h.get hk hy
  have o := h.ok hy
  obtain ⟨h1, h2, h3, h4, h5⟩ := h
  obtain ⟨m, hm⟩ : ∃ m, N - k = m + 1 := ⟨N - k - 1, by omega⟩
  have hm' : N - (k + 1) = m := by omega
  refine ⟨hk, ?_, (List.getElem?_eq_some_iff.1 g).1, ?_, Or.inl o⟩
  · rw [← List.drop_drop, h2, hm, hm']
    show (if s.y = 0 then (rd s).1 :: rdKL rd m (rd s).2 else []).drop 1 = _
    rw [if_pos hy]
    rfl
  · rw [h4, hm, hm']
    show (if s.y = 0 then rdKS rd m (rd s).2 else s) = _
    rw [if_pos hy]
theorem LsI.last (h : LsI rd N s0 k s) (hk : k = N ∨ s.y ≠ 0) : (rdKL rd N s0).length = k ∧ rdKS rd N s0 = s := by
  obtain ⟨h1, h2, h3, h4, h5⟩ := h
  have e : rdKL rd (N - k) s = [] ∧ rdKS rd (N - k) s = s := by
    rcases hk with q | q
    · subst q; rw [Nat.sub_self]; exact ⟨rfl, rfl⟩
    · exact ⟨rdKL_bad rd _ q, rdKS_bad rd _ q⟩
  refine ⟨?_, h4.trans e.2⟩
  have := congrArg List.length (h2.trans e.1)
  rw [List.length_drop, List.length_nil] at this
  omega
end
section
variable {α : Type} {T : TypeId} {n base k g : Nat} {P : (Nat → Prop) → World → α → List Value → Prop} {l : List α} {out out' : Value} {wr W w7 : World}
theorem MkI.stepG (K : Kept P) (hgb : g < base) {vss : List (List Value)} (el : vss.length = k) (hn : ∀ v ∈ vss, v.length = n)
    (hf : ∀ (i : Nat) vs e, vss[i]? = some vs → l[i]? = some e → P (fun b => Fresh base wr.heap.size b ∧ out.ownBlock ≠ some b) wr e vs)
    (hlt : ∀ g, out.ownBlock = some g → base ≤ g ∧ g < wr.heap.size)
    (vs : List Value) (e : α) (he : l[k]? = some e) (hvn : vs.length = n) (s0 : base ≤ wr.heap.size) (b5 : wr.grownBy W (some g))
    (hv : P (Fresh wr.heap.size W.heap.size) W e vs) (hg : W.grownBy w7 out.ownBlock)
    (ho : w7.ownsRow base T n out' (k + 1) (vss.flatten ++ vs)) (hb : out'.ownBlock = out.ownBlock ∨ out'.ownBlock = some W.heap.size) : MkI T n P base l (k + 1) out' w7 := by
  have s5 := b5.size
  have s7 := hg.size
  have ne : ∀ b, b < W.heap.size → out.ownBlock ≠ some b → out'.ownBlock ≠ some b := fun b h1 h2 h3 => by
    rcases hb with q | q
    · exact h2 (q ▸ h3)
    · rw [q] at h3; simp at h3; omega
  refine ⟨vss ++ [vs], by simp [el], fun v hv => ?_, by rw [List.flatten_append]; simpa using ho, fun i t' e' ht hl => ?_⟩
  · rcases List.mem_append.1 hv with q | q
    · exact hn v q
    · rw [List.mem_singleton.1 q]; exact hvn
  by_cases hi : i < k
  · rw [List.getElem?_append_left (by omega)] at ht
    have h := hf i t' e' ht hl
    refine K.sub (fun b hb => ⟨⟨hb.1.1, by have := hb.1.2; omega⟩, ne b (by have := hb.1.2; omega) hb.2⟩) (K.fr (w' := w7) h fun q hq => ?_)
    have q1 := hq.1.1
    have q2 := hq.1.2
    refine World.cell?_of_block ?_
    exact (hg.block _ (by omega) (fun h => hq.2 h.symm)).trans (b5.block _ q2 (fun h => by cases h; omega))
  · have ik : i = k := by
      have := (List.getElem?_eq_some_iff.1 ht).1
      simp at this
      omega
    subst ik
    rw [List.getElem?_append_right (by omega), el] at ht
    simp at ht
    subst ht
    rw [he] at hl
    cases hl
    have no : ∀ b, wr.heap.size ≤ b → out.ownBlock ≠ some b := fun b h1 h2 => by have := (hlt b h2).2; omega
    refine K.sub (fun b hb => ⟨⟨by have := hb.1; omega, by have := hb.2; omega⟩, ne b (by have := hb.2; omega) (no b hb.1)⟩) (K.fr (w' := w7) hv fun q hq => ?_)
    have q1 := hq.1
    have q2 := hq.2
    refine World.cell?_of_block ?_
    exact hg.block _ (by omega) (fun h => no _ q1 h.symm)
end
end Go.Proofs.YtkickdmomompjaaGreat
