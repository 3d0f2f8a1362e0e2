/- image: a reader's lists of codes and of tasks; no statement of the seat is proved here. -/
import Derived.Test.YtdcjngakmkgbmaaGreatKoA6
import Derived.Maps.OwnSet
import Derived.Maps.Views
import Derived.Test.YtdcjngakmkgbmaaGreatKoA2
namespace Go.Proofs.YtdcjngakmkgbmaaGreat
set_option linter.unusedVariables false
open Go.RowKit
set_option maxHeartbeats 4000000 in
theorem mayCell_of (c : CeR) (h : CeOk c) (w : World) : Calls Tryz.prog 50 #[CeV c] w fun e w' => e = .returned (.bool (ceB c)) ∧ Below w.heap.size w w' := by
  have Q1 : Hid (∀ W, Calls Tryz.prog 90 #[CeV c] W fun e w' => e = .returned (.bool (bdB c)) ∧ Below W.heap.size W w') := fun W => mayBound_of c W
  have Q2 : Hid (∀ W, Calls Tryz.prog 91 #[CeV c] W fun e w' => e = .returned (.bool (bgB c)) ∧ Below W.heap.size W w') := fun W => mayBegin_of c h W
  have Q3 : Hid (1 ≤ c.kd ∧ c.kd ≤ 20 → ∀ W, Calls Tryz.prog 92 #[CeV c] W fun e w' => e = .returned (.bool (liB c)) ∧ Below W.heap.size W w') := fun hk W => mayLie_of c h hk W
  clear h
  unfold ceB
  generalize bdB c = r1 at *
  generalize bgB c = r2 at *
  generalize liB c = r3 at *
  obtain ⟨kd, sb, lo, hi, mx, ik, ib, is, kp, dr, ad⟩ := c
  simp only at Q3 ⊢
  unfold inB
  by_cases k1 : 1 ≤ kd
  case neg =>
    rw [decide_eq_false k1]
    go_enter Tryz.func50, Tryz.ntmps50
    go_wp2
    go_ret
    exact ⟨by simp, by go_grown⟩
  by_cases k2 : kd ≤ 20
  case neg =>
    rw [decide_eq_false k2]
    go_enter Tryz.func50, Tryz.ntmps50
    go_wp2
    go_ret
    exact ⟨by simp, by go_grown⟩
  have Q3 : Hid _ := Q3.out ⟨k1, k2⟩
  rw [decide_eq_true k1, decide_eq_true k2]
  by_cases k3 : kd = 20
  · subst k3
    rw [decide_eq_true rfl]
    cases kp
    case true =>
      go_enter Tryz.func50, Tryz.ntmps50
      go_wp2
      go_ret
      exact ⟨by simp, by go_grown⟩
    go_enter Tryz.func50, Tryz.ntmps50
    go_wp2_with fail
    refine (Q1.out _).mono ?_
    rintro e w1 ⟨rfl, hb⟩
    have B1 : Hid (Below w.heap.size w w1) := bl_tr (by go_grown) hb
    have X1 := (hb.block w.heap.size (by simp)).trans (heap_alloc_last w _)
    have XX : Hid _ := X1
    have z1 : w.heap.size < w1.heap.size := blk_in X1
    have k0 : w1.cell? ⟨w.heap.size, 0, none⟩ = some (.int .u8 20) := by simp [World.cell?, X1]
    have k1 : w1.cell? ⟨w.heap.size, 1, none⟩ = some (.bool sb) := by simp [World.cell?, X1]
    have k2 : w1.cell? ⟨w.heap.size, 2, none⟩ = some (.int .i64 lo) := by simp [World.cell?, X1]
    have k3 : w1.cell? ⟨w.heap.size, 3, none⟩ = some (.int .i64 hi) := by simp [World.cell?, X1]
    have k4 : w1.cell? ⟨w.heap.size, 4, none⟩ = some (.int .i64 mx) := by simp [World.cell?, X1]
    have k5 : w1.cell? ⟨w.heap.size, 5, none⟩ = some (.int .u8 ik) := by simp [World.cell?, X1]
    have k6 : w1.cell? ⟨w.heap.size, 6, none⟩ = some (.int .u64 ib) := by simp [World.cell?, X1]
    have k7 : w1.cell? ⟨w.heap.size, 7, none⟩ = some (.string is) := by simp [World.cell?, X1]
    have k8 : w1.cell? ⟨w.heap.size, 8, none⟩ = some (.bool false) := by simp [World.cell?, X1]
    have k9 : w1.cell? ⟨w.heap.size, 9, none⟩ = some (.int .i64 dr) := by simp [World.cell?, X1]
    have k10 : w1.cell? ⟨w.heap.size, 10, none⟩ = some (.string ad) := by simp [World.cell?, X1]
    clear hb X1
    cases r1
    · go_wp2
      go_ret
      exact ⟨by simp, B1.out⟩
    go_wp2_with fail
    refine (Q2.out _).mono ?_
    rintro e w2 ⟨rfl, hb⟩
    have B2 : Hid (Below w.heap.size w w2) := bl_tr B1.out hb
    have X2 := (hb.block w.heap.size z1).trans XX.out
    clear k0 k1 k2 k3 k4 k5 k6 k7 k8 k9 k10 XX
    have k0 : w2.cell? ⟨w.heap.size, 0, none⟩ = some (.int .u8 20) := by simp [World.cell?, X2]
    have k1 : w2.cell? ⟨w.heap.size, 1, none⟩ = some (.bool sb) := by simp [World.cell?, X2]
    have k2 : w2.cell? ⟨w.heap.size, 2, none⟩ = some (.int .i64 lo) := by simp [World.cell?, X2]
    have k3 : w2.cell? ⟨w.heap.size, 3, none⟩ = some (.int .i64 hi) := by simp [World.cell?, X2]
    have k4 : w2.cell? ⟨w.heap.size, 4, none⟩ = some (.int .i64 mx) := by simp [World.cell?, X2]
    have k5 : w2.cell? ⟨w.heap.size, 5, none⟩ = some (.int .u8 ik) := by simp [World.cell?, X2]
    have k6 : w2.cell? ⟨w.heap.size, 6, none⟩ = some (.int .u64 ib) := by simp [World.cell?, X2]
    have k7 : w2.cell? ⟨w.heap.size, 7, none⟩ = some (.string is) := by simp [World.cell?, X2]
    have k8 : w2.cell? ⟨w.heap.size, 8, none⟩ = some (.bool false) := by simp [World.cell?, X2]
    have k9 : w2.cell? ⟨w.heap.size, 9, none⟩ = some (.int .i64 dr) := by simp [World.cell?, X2]
    have k10 : w2.cell? ⟨w.heap.size, 10, none⟩ = some (.string ad) := by simp [World.cell?, X2]
    clear hb X2
    cases r2
    · go_wp2
      go_ret
      exact ⟨by simp, B2.out⟩
    go_wp2_with fail
    refine (Q3.out _).mono ?_
    rintro e w3 ⟨rfl, hb⟩
    have B3 : Hid (Below w.heap.size w w3) := bl_tr B2.out hb
    clear hb k0 k1 k2 k3 k4 k5 k6 k7 k8 k9 k10
    cases r3
    all_goals
      go_wp2
      go_ret
      exact ⟨by simp, B3.out⟩
  · rw [decide_eq_false k3]
    have p3 : (kd == 20) = false := by simp [k3]
    clear k3
    go_enter Tryz.func50, Tryz.ntmps50
    go_wp2_with fail
    refine (Q1.out _).mono ?_
    rintro e w1 ⟨rfl, hb⟩
    have B1 : Hid (Below w.heap.size w w1) := bl_tr (by go_grown) hb
    have X1 := (hb.block w.heap.size (by simp)).trans (heap_alloc_last w _)
    have XX : Hid _ := X1
    have z1 : w.heap.size < w1.heap.size := blk_in X1
    have k0 : w1.cell? ⟨w.heap.size, 0, none⟩ = some (.int .u8 kd) := by simp [World.cell?, X1]
    have k1 : w1.cell? ⟨w.heap.size, 1, none⟩ = some (.bool sb) := by simp [World.cell?, X1]
    have k2 : w1.cell? ⟨w.heap.size, 2, none⟩ = some (.int .i64 lo) := by simp [World.cell?, X1]
    have k3 : w1.cell? ⟨w.heap.size, 3, none⟩ = some (.int .i64 hi) := by simp [World.cell?, X1]
    have k4 : w1.cell? ⟨w.heap.size, 4, none⟩ = some (.int .i64 mx) := by simp [World.cell?, X1]
    have k5 : w1.cell? ⟨w.heap.size, 5, none⟩ = some (.int .u8 ik) := by simp [World.cell?, X1]
    have k6 : w1.cell? ⟨w.heap.size, 6, none⟩ = some (.int .u64 ib) := by simp [World.cell?, X1]
    have k7 : w1.cell? ⟨w.heap.size, 7, none⟩ = some (.string is) := by simp [World.cell?, X1]
    have k8 : w1.cell? ⟨w.heap.size, 8, none⟩ = some (.bool kp) := by simp [World.cell?, X1]
    have k9 : w1.cell? ⟨w.heap.size, 9, none⟩ = some (.int .i64 dr) := by simp [World.cell?, X1]
    have k10 : w1.cell? ⟨w.heap.size, 10, none⟩ = some (.string ad) := by simp [World.cell?, X1]
    clear hb X1
    cases r1
    · go_wp2
      go_ret
      exact ⟨by simp, B1.out⟩
    go_wp2_with fail
    refine (Q2.out _).mono ?_
    rintro e w2 ⟨rfl, hb⟩
    have B2 : Hid (Below w.heap.size w w2) := bl_tr B1.out hb
    have X2 := (hb.block w.heap.size z1).trans XX.out
    clear k0 k1 k2 k3 k4 k5 k6 k7 k8 k9 k10 XX
    have k0 : w2.cell? ⟨w.heap.size, 0, none⟩ = some (.int .u8 kd) := by simp [World.cell?, X2]
    have k1 : w2.cell? ⟨w.heap.size, 1, none⟩ = some (.bool sb) := by simp [World.cell?, X2]
    have k2 : w2.cell? ⟨w.heap.size, 2, none⟩ = some (.int .i64 lo) := by simp [World.cell?, X2]
    have k3 : w2.cell? ⟨w.heap.size, 3, none⟩ = some (.int .i64 hi) := by simp [World.cell?, X2]
    have k4 : w2.cell? ⟨w.heap.size, 4, none⟩ = some (.int .i64 mx) := by simp [World.cell?, X2]
    have k5 : w2.cell? ⟨w.heap.size, 5, none⟩ = some (.int .u8 ik) := by simp [World.cell?, X2]
    have k6 : w2.cell? ⟨w.heap.size, 6, none⟩ = some (.int .u64 ib) := by simp [World.cell?, X2]
    have k7 : w2.cell? ⟨w.heap.size, 7, none⟩ = some (.string is) := by simp [World.cell?, X2]
    have k8 : w2.cell? ⟨w.heap.size, 8, none⟩ = some (.bool kp) := by simp [World.cell?, X2]
    have k9 : w2.cell? ⟨w.heap.size, 9, none⟩ = some (.int .i64 dr) := by simp [World.cell?, X2]
    have k10 : w2.cell? ⟨w.heap.size, 10, none⟩ = some (.string ad) := by simp [World.cell?, X2]
    clear hb X2
    cases r2
    · go_wp2
      go_ret
      exact ⟨by simp, B2.out⟩
    go_wp2_with fail
    refine (Q3.out _).mono ?_
    rintro e w3 ⟨rfl, hb⟩
    have B3 : Hid (Below w.heap.size w w3) := bl_tr B2.out hb
    clear hb k0 k1 k2 k3 k4 k5 k6 k7 k8 k9 k10
    cases r3
    all_goals
      go_wp2
      go_ret
      exact ⟨by simp, B3.out⟩
/-- A set of texts that a call has made. -/
def SetS (w : World) (b n : Nat) (l : List ByteArray) : Prop := ∃ D : DataW Unit, w.ownsMap Tryz.prog 9 unitElem b n D ∧ ∀ s : ByteArray, Maps.has D (.string s.data.toList) = l.any (fun x => decide (x = s))
theorem mk_map (w : World) : (Instr.makeMap 104 none).run Tryz.prog w = .ok (.map (some w.heap.size)) (w.alloc (.map #[] 0)) := rfl
theorem zeroU (w : World) : (zeroValue 105).run Tryz.prog w = .ok (.agg #[]) w := by kernel_rfl
theorem SetS.made (w : World) : SetS (w.alloc (.map #[] 0)) w.heap.size 0 [] := ⟨.map [], World.ownsMap_made w _ _ _, fun s => rfl⟩
theorem SetS.below {w w' : World} {b n : Nat} {l : List ByteArray} (h : SetS w b n l) (hb : Below w.heap.size w w') : SetS w' b n l := by
  obtain ⟨D, h1, h2⟩ := h
  exact ⟨D, h1.kept (row := none) ⟨hb.os, hb.tape, hb.output, hb.size, fun k hk _ => hb.block k hk⟩ (by simp), h2⟩
theorem SetS.lt {w : World} {b n : Nat} {l : List ByteArray} (h : SetS w b n l) : b < w.heap.size := by obtain ⟨D, h1, _⟩ := h; exact h1.lt
theorem keyS (s : ByteArray) (h : s.size ≤ maxLen) : keyOf Tryz.prog 9 (.string s) = some (.string s.data.toList) := WideMaps.keyOf_string_mk Tryz.underlying9 h
theorem ba_list {a b : ByteArray} (h : a.data.toList = b.data.toList) : a = b := by
  cases a; cases b
  exact congrArg ByteArray.mk (Array.toList_inj.1 h)
theorem SetS.put {w w' : World} {b n : Nat} {l : List ByteArray} {D : DataW Unit} (h1 : w.ownsMap Tryz.prog 9 unitElem b n D) (h2 : ∀ s : ByteArray, Maps.has D (.string s.data.toList) = l.any (fun x => decide (x = s))) (s : ByteArray)
    (h : w'.ownsMap Tryz.prog 9 unitElem b (n + 1) (D.put (.string s.data.toList) (.agg []))) : SetS w' b (n + 1) (l ++ [s]) := by
  refine ⟨_, h, fun t => ?_⟩
  rw [List.any_append]
  by_cases e : t = s
  · subst e
    rw [Maps.has_put_same h1.isMap (by simp [WideAt.IsKeyLit])]
    simp
  · rw [Maps.has_put_other (fun q => e (ba_list (by simpa using q))), h2 t]
    have : (s = t) = False := by simp; exact fun q => e q.symm
    simp [this]
end Go.Proofs.YtdcjngakmkgbmaaGreat
namespace Go.Proofs.YtdcjngakmkgbmaaGreat
set_option linter.unusedVariables false
open Go.RowKit
/-- The addresses that the first cells have. -/
def setL (l : List CeR) (k : Nat) : List ByteArray := ((l.take k).filter (fun c => !emB c.ad)).map (·.ad)
theorem setL_any (l : List CeR) (k : Nat) (s : ByteArray) : (setL l k).any (fun x => decide (x = s)) = !(emB s || (l.take k).all (fun x => decide (¬ x.ad = s))) := by
  unfold setL
  generalize l.take k = t
  induction t with
  | nil => simp
  | cons c t ih =>
    cases q : emB c.ad
    · simp only [List.filter_cons, q, Bool.not_false, if_pos, List.map_cons, List.any_cons, ih, List.all_cons]
      by_cases e : c.ad = s
      · subst e
        simp [q]
      · simp [e]
    · simp only [List.filter_cons, q, Bool.not_true, List.all_cons]
      rw [if_neg (by simp), ih]
      by_cases e : c.ad = s
      · subst e
        simp [q]
      · simp [e]
theorem setL_yes (l : List CeR) (k : Nat) (c : CeR) (h : l[k]? = some c) (he : emB c.ad = false) : setL l (k + 1) = setL l k ++ [c.ad] := by
  unfold setL
  rw [List.take_add_one, h]
  simp [he]
theorem setL_no (l : List CeR) (k : Nat) (c : CeR) (h : l[k]? = some c) (he : emB c.ad = true) : setL l (k + 1) = setL l k := by
  unfold setL
  rw [List.take_add_one, h]
  simp [he]
theorem tw_at (w2 : World) (X Y : Obj) : ((w2.alloc X).alloc Y).heap[w2.heap.size]? = some X ∧ ((w2.alloc X).alloc Y).heap[w2.heap.size + 1]? = some Y := by
  have q := heap_alloc_last (w2.alloc X) Y
  rw [show (w2.alloc X).heap.size = w2.heap.size + 1 by simp] at q
  exact ⟨(Below.heap_alloc _ _ _ (by simp)).trans (heap_alloc_last _ _), q⟩
theorem fw_info : (Tryz.prog.info? 72).map (·.size) = some 3 := by kernel_rfl
theorem row_below {w wr : World} (h : Below w.heap.size w wr) {g : Nat} (hg : w.heap.size ≤ g) (cs : Array Value) : Below w.heap.size w (wr.setRow g cs) :=
  h.trans ⟨rfl, rfl, rfl, by simp [World.setRow], fun k hk => setRow_other _ _ _ _ (by omega)⟩
/-- What a look at all cells answers. -/
def fwV (o : Option Nat) (e : Int) : Value := match o with
  | some i => .agg #[.int .i64 i, .int .i64 0, .int .i64 e]
  | none => .agg #[.int .i64 0, .int .i64 0, .int .i64 0]
set_option maxRecDepth 20000 in
set_option maxHeartbeats 8000000 in
theorem cellFlaw_of (m : ImR) (x1 x2 x3 : Option Addr) (p1 p2 p3 : Nat) (w : World) {S : Nat → Prop} (hS : ∀ b, S b → b < w.heap.size) (ha : RwF 11 (Is ceC) S w x1 m.cs) (ho : ∀ c ∈ m.cs, CeOk c) :
    Calls Tryz.prog 22 #[.agg #[.string m.nm, .slice x1 m.cs.length p1, .slice x2 m.fs.length p2, .slice x3 m.js.length p3]] w fun e w' => e = .returned (fwV (fstN (ceAt m.cs) m.cs.length) 203) ∧ Below w.heap.size w w' := by
  have HA : Hid (RwF 11 (Is ceC) S w x1 m.cs) := ha
  have HS : Hid (∀ b, S b → b < w.heap.size) := hS
  have HO : Hid (∀ c ∈ m.cs, CeOk c) := ho
  clear ha hS ho
  generalize hv : fwV (fstN (ceAt m.cs) m.cs.length) 203 = VV
  have HV : Hid (fwV (fstN (ceAt m.cs) m.cs.length) 203 = VV) := hv
  clear hv
  have mm := mk_map
  obtain ⟨AW, eW⟩ : ∃ AW, AW = ((w.alloc (.cells #[.string m.nm, .slice x1 m.cs.length p1, .slice x2 m.fs.length p2, .slice x3 m.js.length p3] 26 (0, 0))).alloc (.cells #[.int .i64 0, .int .i64 0, .int .i64 0] 72 (0, 0))).alloc (.map #[] 0) := ⟨_, rfl⟩
  have AB : Hid (Below w.heap.size w AW) := by rw [eW]; exact (((Below.refl _ _).alloc (Nat.le_refl _) _).alloc (by simp) _).alloc (by simp; omega) _
  have AZ : Hid (AW.heap[w.heap.size + 1]? = some (.cells #[.int .i64 0, .int .i64 0, .int .i64 0] 72 (0, 0))) := by rw [eW]; exact (Below.heap_alloc _ _ _ (by simp)).trans (tw_at w _ _).2
  have AX : Hid (AW.heap[w.heap.size]? = some (.cells #[.string m.nm, .slice x1 m.cs.length p1, .slice x2 m.fs.length p2, .slice x3 m.js.length p3] 26 (0, 0))) := by rw [eW]; exact (Below.heap_alloc _ _ _ (by simp; omega)).trans (tw_at w _ _).1
  have AM : Hid (SetS AW (w.heap.size + 1 + 1) 0 []) := by rw [eW]; have := SetS.made ((w.alloc (.cells #[.string m.nm, .slice x1 m.cs.length p1, .slice x2 m.fs.length p2, .slice x3 m.js.length p3] 26 (0, 0))).alloc (.cells #[.int .i64 0, .int .i64 0, .int .i64 0] 72 (0, 0))); simp only [World.size_alloc] at this; exact this
  have sl := blk_in AX.out
  have b1 : AW.cell? ⟨w.heap.size, 1, none⟩ = some (.slice x1 m.cs.length p1) := by simp [World.cell?, AX.out]
  go_enter Tryz.func22, Tryz.ntmps22
  go_upto_region 2 with fail
  rw [← eW]
  clear eW mm AX
  go_wp2_with fail
  go_loopw [12] (fun i wr => ∃ k : Nat, k ≤ m.cs.length ∧ i = .int .i64 k ∧ Below w.heap.size w wr ∧ wr.heap[w.heap.size + 1]? = some (.cells #[.int .i64 0, .int .i64 0, .int .i64 0] 72 (0, 0)) ∧ (∃ n, n ≤ k ∧ SetS wr (w.heap.size + 1 + 1) n (setL m.cs k)) ∧ ∀ j, j < k → ceAt m.cs j = true) (fun i _ => m.cs.length - (intOf i).toNat)
  case atStart => exact ⟨0, Nat.zero_le _, rfl, AB.out, AZ.out, ⟨0, Nat.le_refl _, AM.out⟩, fun j hj => absurd hj (Nat.not_lt_zero _)⟩
  case round =>
    obtain ⟨k, hk, rfl, hbw, hz, ⟨n, hn, hm⟩, hall⟩ := hrel
    have HW : Hid (Below w.heap.size w wr) := hbw
    have HZ : Hid (wr.heap[w.heap.size + 1]? = some (.cells #[.int .i64 0, .int .i64 0, .int .i64 0] 72 (0, 0))) := hz
    have HM : Hid (SetS wr (w.heap.size + 1 + 1) n (setL m.cs k)) := hm
    have HN : Hid (n ≤ k) := hn
    have AL : Hid (∀ j, j < k → ceAt m.cs j = true) := hall
    clear hz hm hn hall
    by_cases hlt : k < m.cs.length
    · obtain ⟨a, rfl⟩ := HA.out.some (by omega)
      obtain ⟨s, sv, se, _, rfl, sk⟩ := (HA.out.fr (w' := wr) (fun q hq => hbw.cell (HS.out _ hq))).el k hlt
      have e0 := sk.c0
      have e1 := sk.cp 0 _ rfl
      have e2 := sk.cp 1 _ rfl
      have e3 := sk.cp 2 _ rfl
      have e4 := sk.cp 3 _ rfl
      have e5 := sk.cp 4 _ rfl
      have e6 := sk.cp 5 _ rfl
      have e7 := sk.cp 6 _ rfl
      have e8 := sk.cp 7 _ rfl
      have e9 := sk.cp 8 _ rfl
      have e10 := sk.cp 9 _ rfl
      have ES : Hid (m.cs[k]? = some s) := se
      have OK : Hid (CeOk s) := HO.out s (List.mem_of_getElem? se)
      have LT : Hid (k < m.cs.length) := hlt
      have kl : (k : Int) < m.cs.length := by omega
      clear hbw se hlt sk
      have za := block_lt_of_cell e0
      have zm := HM.out.lt
      have CA : Hid (ceAt m.cs k = (ceB s && !((setL m.cs k).any (fun x => decide (x = s.ad))))) := by
        show _ = _
        rw [setL_any, Bool.not_not]
        unfold ceAt
        rw [ES.out]
      have KY := keyS s.ad (sh_max OK.out.2.2.2.2.2.2.2.2)
      have GA : Hid (∀ X : Obj, Below wr.heap.size wr (wr.alloc X)) := fun X => (Below.refl _ _).alloc (Nat.le_refl _) _
      have G2 : Hid (∀ X Y : Obj, Below wr.heap.size wr ((wr.alloc X).alloc Y)) := fun X Y => ((Below.refl _ _).alloc (Nat.le_refl _) _).alloc (by simp) _
      cases q : (setL m.cs k).any (fun x => decide (x = s.ad))
      case true =>
        have QQ : Hid _ := q
        rw [q, Bool.not_true, Bool.and_false] at CA
        clear q
        have ans : VV = .agg #[.int .i64 k, .int .i64 0, .int .i64 203] := by rw [← HV.out, fstN_some LT.out AL.out CA.out]; rfl
        have AN : Hid _ := ans
        clear ans
        have ZZ : Hid (∀ X Y : Obj, ((wr.alloc X).alloc Y).heap[w.heap.size + 1]? = some (.cells #[.int .i64 0, .int .i64 0, .int .i64 0] 72 (0, 0))) := fun X Y => ((G2.out X Y).block _ (blk_in HZ.out)).trans HZ.out
        go_wp2_with (first | (at_lookup; obtain ⟨D, h1, h2⟩ := HM.out.below (GA.out (.cells #[.int .u8 s.kd, .bool s.sb, .int .i64 s.lo, .int .i64 s.hi, .int .i64 s.mx, .int .u8 s.ik, .int .u64 s.ib, .string s.is, .bool s.kp, .int .i64 s.dr, .string s.ad] 40 (0, 0))); refine wpList_lookup_own_unit _ rfl _ _ 104 rfl 9 105 (Maps.string_keyed Tryz.underlying9) Tryz.underlying104 (zeroU _) (w.heap.size + 1 + 1) n D rfl h1 _ _ rfl KY ?_; rw [h2 s.ad, QQ.out]; clear h1 h2 D) | (refine wpList_store_row rfl 72 _ _ rfl (w.heap.size + 1) _ rfl rfl _ _ (ZZ.out _ _) fw_info rfl (by kernel_rfl) ?_))
        refine bodyPost_ret (v := .agg #[.int .i64 k, .int .i64 0, .int .i64 203]) (results_cell_row Tryz.results22 _ _ (w.heap.size + 1) _ _ (0, 0) _ (by first | rfl | simp [Act.put]) (setRow_heap _ _ _ _ _ _ (ZZ.out _ _)) Tryz.underlying72 rfl fw_info) rfl ?_
        exact ⟨by rw [AN.out], row_below (HW.out.trans ((G2.out _ _).mono HW.out.size)) (by omega) _⟩
      case false =>
        have QQ : Hid _ := q
        rw [q, Bool.not_false, Bool.and_true] at CA
        clear q
        have M1 : Hid (∀ W, Calls Tryz.prog 50 #[CeV s] W fun e w' => e = .returned (.bool (ceB s)) ∧ Below W.heap.size W w') := fun W => mayCell_of s OK.out W
        go_wp2_with ((at_lookup; obtain ⟨D, h1, h2⟩ := HM.out.below (GA.out (.cells #[.int .u8 s.kd, .bool s.sb, .int .i64 s.lo, .int .i64 s.hi, .int .i64 s.mx, .int .u8 s.ik, .int .u64 s.ib, .string s.is, .bool s.kp, .int .i64 s.dr, .string s.ad] 40 (0, 0))); refine wpList_lookup_own_unit _ rfl _ _ 104 rfl 9 105 (Maps.string_keyed Tryz.underlying9) Tryz.underlying104 (zeroU _) (w.heap.size + 1 + 1) n D rfl h1 _ _ rfl KY ?_; rw [h2 s.ad, QQ.out]; clear h1 h2 D))
        refine (M1.out _).mono ?_
        rintro e w5 ⟨rfl, hb⟩
        have B5 : Hid (Below wr.heap.size wr w5) := bl_tr (G2.out _ _) hb
        have X5 := (hb.block wr.heap.size (by simp; omega)).trans (tw_at wr _ _).1
        have Z5 : Hid (w5.heap[w.heap.size + 1]? = some (.cells #[.int .i64 0, .int .i64 0, .int .i64 0] 72 (0, 0))) := (B5.out.block _ (blk_in HZ.out)).trans HZ.out
        have S5 : Hid (SetS w5 (w.heap.size + 1 + 1) n (setL m.cs k)) := HM.out.below B5.out
        have k10 : w5.cell? ⟨wr.heap.size, 10, none⟩ = some (.string s.ad) := by simp [World.cell?, X5]
        clear hb X5 e0 e1 e2 e3 e4 e5 e6 e7 e8 e9 e10 za zm GA
        generalize ceB s = r at *
        cases r
        · have ans : VV = .agg #[.int .i64 k, .int .i64 0, .int .i64 203] := by rw [← HV.out, fstN_some LT.out AL.out CA.out]; rfl
          have AN : Hid _ := ans
          clear ans
          go_wp2_with (refine wpList_store_row rfl 72 _ _ rfl (w.heap.size + 1) _ rfl rfl _ _ Z5.out fw_info rfl (by kernel_rfl) ?_)
          refine bodyPost_ret (v := .agg #[.int .i64 k, .int .i64 0, .int .i64 203]) (results_cell_row Tryz.results22 _ _ (w.heap.size + 1) _ _ (0, 0) _ (by first | rfl | simp [Act.put]) (setRow_heap _ _ _ _ _ _ Z5.out) Tryz.underlying72 rfl fw_info) rfl ?_
          exact ⟨by rw [AN.out], row_below (HW.out.trans (B5.out.mono HW.out.size)) (by omega) _⟩
        · have ew : wrap64 ((k : Int) + 1) = (k : Int) + 1 := by have := HA.out.1; have := LT.out; unfold wrap64; omega
          have NX : Hid (∀ j, j < k + 1 → ceAt m.cs j = true) := fun j hj => by
            rcases Nat.lt_succ_iff_lt_or_eq.1 hj with h | rfl
            · exact AL.out j h
            · exact CA.out
          cases q : emB s.ad
          · have q1 : s.ad.toList.isEmpty = false := q
            have SY : Hid (setL m.cs (k + 1) = setL m.cs k ++ [s.ad]) := setL_yes m.cs k s ES.out q
            clear q
            go_wp2_with (at_mapUpdate; obtain ⟨D, h1, h2⟩ := S5.out; refine wpList_mapUpdate_own _ rfl _ _ _ 104 rfl 9 105 (Maps.string_keyed Tryz.underlying9) Tryz.underlying104 unitElem (w.heap.size + 1 + 1) n D rfl h1 (by have := HN.out; have := LT.out; have := HA.out.1; simp [maxLen]; omega) _ _ (.string s.ad.data.toList) rfl rfl KY (.agg []) [] unitElem_mk ?_; intro w7 t1 t2; have T1 : Hid (SetS w7 (w.heap.size + 1 + 1) (n + 1) (setL m.cs k ++ [s.ad])) := SetS.put h1 h2 s.ad t1; have T2 : Hid _ := t2; clear t1 t2 h1 h2 D)
            rw [ew]
            refine ⟨⟨k + 1, Nat.succ_le_of_lt LT.out, rfl, ?_, ?_, ⟨n + 1, Nat.succ_le_succ HN.out, by rw [SY.out]; exact T1.out⟩, NX.out⟩, msr LT.out⟩
            · exact (HW.out.trans (B5.out.mono HW.out.size)).grown T2.out (Nat.le_trans HW.out.size B5.out.size) (fun g e => by cases e; omega)
            · exact (T2.out.block _ (blk_in Z5.out) (by simp)).trans Z5.out
          · have q1 : s.ad.toList.isEmpty = true := q
            have SY : Hid (setL m.cs (k + 1) = setL m.cs k) := setL_no m.cs k s ES.out q
            clear q
            go_wp2
            rw [ew]
            exact ⟨⟨k + 1, Nat.succ_le_of_lt LT.out, rfl, HW.out.trans (B5.out.mono HW.out.size), Z5.out, ⟨n, Nat.le_succ_of_le HN.out, by rw [SY.out]; exact S5.out⟩, NX.out⟩, msr LT.out⟩
    · have kl : ¬ (k : Int) < m.cs.length := by omega
      have ek : k = m.cs.length := by omega
      subst ek
      have ans : VV = .agg #[.int .i64 0, .int .i64 0, .int .i64 0] := by rw [← HV.out, fstN_none AL.out]; rfl
      have AN : Hid _ := ans
      clear ans hbw hlt
      go_wp2_with (refine wpList_store_row rfl 72 _ _ rfl (w.heap.size + 1) _ rfl rfl _ _ HZ.out fw_info rfl (by kernel_rfl) ?_)
      refine bodyPost_ret (v := .agg #[.int .i64 0, .int .i64 0, .int .i64 0]) (results_cell_row Tryz.results22 _ _ (w.heap.size + 1) _ _ (0, 0) _ (by first | rfl | simp [Act.put]) (setRow_heap _ _ _ _ _ _ HZ.out) Tryz.underlying72 rfl fw_info) rfl ?_
      exact ⟨by rw [AN.out], row_below HW.out (by omega) _⟩
end Go.Proofs.YtdcjngakmkgbmaaGreat
namespace Go.Proofs.YtdcjngakmkgbmaaGreat
set_option linter.unusedVariables false
open Go.RowKit
theorem rw_keep {α : Type} {n : Nat} {P : (Nat → Prop) → World → α → List Value → Prop} (K : Kept P) {b g : Nat} {w w' : World} {x : Option Addr} {l : List α} (h : RwF n (P (Fresh b w.heap.size) w) (Fresh b w.heap.size) w x l) (hg : w.grownBy w' (some g)) (hgb : g < b) : RwF n (P (Fresh b w'.heap.size) w') (Fresh b w'.heap.size) w' x l :=
  RwF.subK K (up_sub' (Nat.le_refl _) hg.size) (h.frK K (fun q hq => World.cell?_of_block (hg.block _ hq.2 (fun e => by cases e; have := hq.1; omega))))
theorem rw_row {α : Type} {n : Nat} {P : (Nat → Prop) → World → α → List Value → Prop} (K : Kept P) {a r : Nat} {w : World} {x : Option Addr} {l : List α} {vs : Array Value} (h : RwF n (P (Fresh (r + 1) w.heap.size) w) (Fresh (r + 1) w.heap.size) w x l) (ha : a ≤ r) : RwF n (P (Fresh a (w.setRow r vs).heap.size) (w.setRow r vs)) (Fresh a (w.setRow r vs).heap.size) (w.setRow r vs) x l :=
  RwF.subK K (up_sub' (Nat.le_succ_of_le ha) (by simp [World.setRow])) (h.frK K (fun q hq => World.cell?_of_block (setRow_other _ _ _ _ (by have := hq.1; omega))))
end Go.Proofs.YtdcjngakmkgbmaaGreat
namespace Go.Proofs.YtdcjngakmkgbmaaGreat
set_option linter.unusedVariables false
open Go.RowKit
def rdV (bs : List Nat) (s : RS) : (Nat × Int × ByteArray) × RS :=
  (((rdB bs s).1, IntKind.u64.wrap (rdN bs (rdB bs s).2).1, (rdT bs (rdN bs (rdB bs s).2).2).1), (rdT bs (rdN bs (rdB bs s).2).2).2)
/-- So many numbers, one behind the other. -/
def rdNs (bs : List Nat) : Nat → RS → RS
  | 0, s => s
  | k + 1, s => (rdN bs (rdNs bs k s)).2
def rdOp (bs : List Nat) (s : RS) : OpR × RS :=
  (⟨(rdN bs s).1, (rdN bs (rdNs bs 1 s)).1, (rdN bs (rdNs bs 2 s)).1, (rdN bs (rdNs bs 3 s)).1, (rdN bs (rdNs bs 4 s)).1, (rdN bs (rdNs bs 5 s)).1, (rdN bs (rdNs bs 6 s)).1, (rdV bs (rdNs bs 7 s)).1.1, (rdV bs (rdNs bs 7 s)).1.2.1, (rdV bs (rdNs bs 7 s)).1.2.2⟩, (rdV bs (rdNs bs 7 s)).2)
/-- Where a cell's parts begin. -/
def kceA (bs : List Nat) (s : RS) : RS := (rdF bs (rdB bs s).2).2
def kceB (bs : List Nat) (s : RS) : RS := rdNs bs 3 (kceA bs s)
def kceD (bs : List Nat) (s : RS) : RS := (rdV bs (kceB bs s)).2
def kceE (bs : List Nat) (s : RS) : RS := (rdF bs (kceD bs s)).2
def kceF (bs : List Nat) (s : RS) : RS := (rdB bs (kceE bs s)).2
def rdCe (bs : List Nat) (s : RS) : CeR × RS :=
  (⟨(rdB bs s).1, (rdF bs (rdB bs s).2).1, (rdN bs (kceA bs s)).1, (rdN bs (rdNs bs 1 (kceA bs s))).1, (rdN bs (rdNs bs 2 (kceA bs s))).1, (rdV bs (kceB bs s)).1.1, (rdV bs (kceB bs s)).1.2.1, (rdV bs (kceB bs s)).1.2.2, (rdF bs (kceD bs s)).1, (rdB bs (kceE bs s)).1, (rdT bs (kceF bs s)).1⟩, (rdT bs (kceF bs s)).2)
def kflA (bs : List Nat) (s : RS) : RS := (rdT bs s).2
def kflB (bs : List Nat) (s : RS) : RS := rdNs bs 5 (kflA bs s)
def kflD (bs : List Nat) (s : RS) : RS := (rdL (rdOp bs) bs (kflB bs s)).2
def rdFl (bs : List Nat) (s : RS) : FlR × RS :=
  (⟨(rdT bs s).1, (rdN bs (kflA bs s)).1, (rdN bs (rdNs bs 1 (kflA bs s))).1, (rdN bs (rdNs bs 2 (kflA bs s))).1, (rdN bs (rdNs bs 3 (kflA bs s))).1, (rdN bs (rdNs bs 4 (kflA bs s))).1, (rdL (rdOp bs) bs (kflB bs s)).1, (rdL (rdLp bs) bs (kflD bs s)).1⟩, (rdL (rdLp bs) bs (kflD bs s)).2)
def kjbA (bs : List Nat) (s : RS) : RS := (rdT bs s).2
def kjbB (bs : List Nat) (s : RS) : RS := rdNs bs 3 (kjbA bs s)
def kjbD (bs : List Nat) (s : RS) : RS := (rdL (rdN bs) bs (kjbB bs s)).2
def kjbE (bs : List Nat) (s : RS) : RS := (rdL (rdN bs) bs (kjbD bs s)).2
def rdJb (bs : List Nat) (s : RS) : JbR × RS :=
  (⟨(rdT bs s).1, (rdN bs (kjbA bs s)).1, (rdN bs (rdNs bs 1 (kjbA bs s))).1, (rdN bs (rdNs bs 2 (kjbA bs s))).1, (rdL (rdN bs) bs (kjbB bs s)).1, (rdL (rdN bs) bs (kjbD bs s)).1, (rdN bs (kjbE bs s)).1⟩, (rdN bs (kjbE bs s)).2)
def kimA (bs : List Nat) (s : RS) : RS := (rdT bs s).2
def kimB (bs : List Nat) (s : RS) : RS := (rdL (rdCe bs) bs (kimA bs s)).2
def kimD (bs : List Nat) (s : RS) : RS := (rdL (rdFl bs) bs (kimB bs s)).2
def rdIm (bs : List Nat) (s : RS) : ImR × RS :=
  (⟨(rdT bs s).1, (rdL (rdCe bs) bs (kimA bs s)).1, (rdL (rdFl bs) bs (kimB bs s)).1, (rdL (rdJb bs) bs (kimD bs s)).1⟩, (rdL (rdJb bs) bs (kimD bs s)).2)
theorem rdB_lt {bs : List Nat} (s : RS) (h : ∀ v ∈ bs, v < 256) : (rdB bs s).1 < 256 := by
  unfold rdB
  split
  · rename_i q
    rw [List.getD_eq_getElem?_getD, List.getElem?_eq_getElem q.2]
    exact h _ (List.getElem_mem _)
  · show 0 < 256; omega
section
variable (g kb o c : Nat) (bs : List Nat)
theorem loopM : RdM 108 g kb o c bs (fun s => .agg #[.int .i64 (rdLp bs s).1.hd, .int .i64 (rdLp bs s).1.en, .int .i64 (rdLp bs s).1.tm]) (fun s => (rdLp bs s).2) :=
  fun s w h => loopG g kb o c bs s _ _ _ _ _ _ (numM g kb o c bs s) (numM g kb o c bs _) (numM g kb o c bs _) w h
theorem valueM : RdM 104 g kb o c bs (fun s => .agg #[.int .u8 (rdV bs s).1.1, .int .u64 (rdV bs s).1.2.1, .string (rdV bs s).1.2.2]) (fun s => (rdV bs s).2) :=
  fun s w h => valueG g kb o c bs s _ _ _ _ _ _ _ rfl (rawM g kb o c bs s) (numM g kb o c bs _) (txtM g kb o c bs _) w h
theorem opM : RdM 106 g kb o c bs (fun s => .agg #[.int .i64 (rdOp bs s).1.cd, .int .i64 (rdOp bs s).1.a, .int .i64 (rdOp bs s).1.b, .int .i64 (rdOp bs s).1.c, .int .i64 (rdOp bs s).1.d, .int .i64 (rdOp bs s).1.lo, .int .i64 (rdOp bs s).1.hi, .int .u8 (rdOp bs s).1.vk, .int .u64 (rdOp bs s).1.vb, .string (rdOp bs s).1.vs]) (fun s => (rdOp bs s).2) :=
  fun s w h => opG g kb o c bs s (rdNs bs 1 s) (rdNs bs 2 s) (rdNs bs 3 s) (rdNs bs 4 s) (rdNs bs 5 s) (rdNs bs 6 s) (rdNs bs 7 s) _ _ _ _ _ _ _ _ (rdV bs (rdNs bs 7 s)).1 (numM g kb o c bs s) (numM g kb o c bs _) (numM g kb o c bs _) (numM g kb o c bs _) (numM g kb o c bs _) (numM g kb o c bs _) (numM g kb o c bs _) (valueM g kb o c bs _) w h
theorem cellM : RdM 69 g kb o c bs (fun s => .agg #[.int .u8 (rdCe bs s).1.kd, .bool (rdCe bs s).1.sb, .int .i64 (rdCe bs s).1.lo, .int .i64 (rdCe bs s).1.hi, .int .i64 (rdCe bs s).1.mx, .int .u8 (rdCe bs s).1.ik, .int .u64 (rdCe bs s).1.ib, .string (rdCe bs s).1.is, .bool (rdCe bs s).1.kp, .int .i64 (rdCe bs s).1.dr, .string (rdCe bs s).1.ad]) (fun s => (rdCe bs s).2) :=
  fun s w h => cellG g kb o c bs s (rdB bs s).2 (kceA bs s) (rdNs bs 1 (kceA bs s)) (rdNs bs 2 (kceA bs s)) (kceB bs s) (kceD bs s) (kceE bs s) (kceF bs s) (rdT bs (kceF bs s)).2 _ _ _ _ _ (rdV bs (kceB bs s)).1 _ (rdB bs (kceE bs s)).1 _ (by have := rdB_lt (kceE bs s) h.b8; unfold wrap64; omega) (rawM g kb o c bs s) (flgM g kb o c bs _) (numM g kb o c bs _) (numM g kb o c bs _) (numM g kb o c bs _) (valueM g kb o c bs _) (flgM g kb o c bs _) (rawM g kb o c bs _) (txtM g kb o c bs _) w h
end
end Go.Proofs.YtdcjngakmkgbmaaGreat
namespace Go.Proofs.YtdcjngakmkgbmaaGreat
set_option linter.unusedVariables false
open Go.RowKit
theorem infRlF : ∃ i z, Tryz.prog.info? 44 = some i ∧ i.zero = some z ∧ i.size = 8 ∧ i.bytes = 104 ∧ z.cells.size = 8 := by
  obtain ⟨i, hi, hz⟩ := Option.map_eq_some_iff.1 (show (Tryz.prog.info? 44).map (fun i => (i.zero.map (·.cells.size), i.size, i.bytes)) = some (some 8, 8, 104) by kernel_rfl)
  simp only [Prod.mk.injEq] at hz
  obtain ⟨z, h1, h2⟩ := Option.map_eq_some_iff.1 hz.1
  exact ⟨i, z, hi, h1, hz.2.1, hz.2.2, h2⟩
theorem infRlJ : ∃ i z, Tryz.prog.info? 51 = some i ∧ i.zero = some z ∧ i.size = 7 ∧ i.bytes = 96 ∧ z.cells.size = 7 := by
  obtain ⟨i, hi, hz⟩ := Option.map_eq_some_iff.1 (show (Tryz.prog.info? 51).map (fun i => (i.zero.map (·.cells.size), i.size, i.bytes)) = some (some 7, 7, 96) by kernel_rfl)
  simp only [Prod.mk.injEq] at hz
  obtain ⟨z, h1, h2⟩ := Option.map_eq_some_iff.1 hz.1
  exact ⟨i, z, hi, h1, hz.2.1, hz.2.2, h2⟩
end Go.Proofs.YtdcjngakmkgbmaaGreat
