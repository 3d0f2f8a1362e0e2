/- The document's image: Check; no statement of the seat is proved here. -/
import Derived.Test.YtdcjngakmkgbmaaGreatCrGK
import Derived.Test.YtdcjngakmkgbmaaGreatKoB7
import Derived.Test.YtdcjngakmkgbmaaGreatCrIK
import Derived.Test.YtdcjngakmkgbmaaGreatCrJK
import Derived.Test.YtdcjngakmkgbmaaGreatCkQK
namespace Go.Proofs.YtdcjngakmkgbmaaGreat
set_option linter.unusedVariables false
open Go.RowKit
/-- What Check answers, as a value. -/
def t3 (t : Int × Int × Int) : Value := .tuple #[.int .i64 t.1, .int .i64 t.2.1, .int .i64 t.2.2]
theorem chk_h1 {m : ImR} (h : nameB m.nm = false) : chk m = (0, 0, 6) := by unfold chk; rw [if_pos h]
theorem chk_h2 {m : ImR} (h : nameB m.nm = true) (h2 : 4096 < m.cs.length) : chk m = (4096, 0, 4) := by unfold chk; rw [if_neg (by simp [h]), if_pos h2]
theorem chk_h3 {m : ImR} (h : nameB m.nm = true) (h2 : ¬ 4096 < m.cs.length) (h3 : 64 < m.fs.length) : chk m = (64, 0, 4) := by unfold chk; rw [if_neg (by simp [h]), if_neg h2, if_pos h3]
theorem chk_h4 {m : ImR} (h : nameB m.nm = true) (h2 : ¬ 4096 < m.cs.length) (h3 : ¬ 64 < m.fs.length) (h4 : 16 < m.js.length) : chk m = (16, 0, 4) := by unfold chk; rw [if_neg (by simp [h]), if_neg h2, if_neg h3, if_pos h4]
theorem lk_h {m : ImR} (h : nameB m.nm = true) (h2 : ¬ 4096 < m.cs.length) (h3 : ¬ 64 < m.fs.length) (h4 : ¬ 16 < m.js.length) : (lk3 m 0).2.2 = 0 := by
  show (hd3 m).2.2 = 0
  unfold hd3
  rw [if_neg (by simp [h]), if_neg h2, if_neg h3, if_neg h4]
theorem chk_c {m : ImR} {k : Nat} (h0 : (lk3 m 0).2.2 = 0) (hk : k < m.cs.length) (h : ∀ j, j < k → ceAt m.cs j = true) (hf : ceAt m.cs k = false) : chk m = ((k : Int), 0, 203) := by
  have e : lk3 m 1 = ((k : Int), (0 : Int), (203 : Int)) := by
    show (match fstN (ceAt m.cs) m.cs.length with | some i => ((i : Int), (0 : Int), (203 : Int)) | none => (0, 0, 0)) = _
    rw [fstN_some hk h hf]
  rw [chk_1 h0, if_pos (by rw [e]; show (203 : Int) ≠ 0; decide), e]
theorem lk_c {m : ImR} (h : ∀ j, j < m.cs.length → ceAt m.cs j = true) : (lk3 m 1).2.2 = 0 := by
  show (match fstN (ceAt m.cs) m.cs.length with | some i => ((i : Int), (0 : Int), (203 : Int)) | none => (0, 0, 0)).2.2 = 0
  rw [fstN_none h]
theorem chk_f {m : ImR} {k : Nat} {p e : Int} (h0 : (lk3 m 0).2.2 = 0) (h1 : (lk3 m 1).2.2 = 0) (hk : k < m.fs.length) (h : ∀ j, j < k → (flAt m j).2 = 0) (hf : flAt m k = (p, e)) (he : e ≠ 0) : chk m = ((k : Int), p, e) := by
  have q : lk3 m 2 = ((k : Int), p, e) := by
    show (match fstN (fun i => decide ((flAt m i).2 = 0)) m.fs.length with | some i => ((i : Int), (flAt m i).1, (flAt m i).2) | none => (0, 0, 0)) = _
    rw [fstN_some hk (fun j hj => by simp [h j hj]) (by rw [hf]; simp [he])]
    show ((k : Int), (flAt m k).1, (flAt m k).2) = _
    rw [hf]
  rw [chk_1 h0, if_neg (by simp [h1]), if_pos (by rw [q]; exact he), q]
theorem lk_f {m : ImR} (h : ∀ j, j < m.fs.length → (flAt m j).2 = 0) : (lk3 m 2).2.2 = 0 := by
  show (match fstN (fun i => decide ((flAt m i).2 = 0)) m.fs.length with | some i => ((i : Int), (flAt m i).1, (flAt m i).2) | none => (0, 0, 0)).2.2 = 0
  rw [fstN_none (fun j hj => by simp [h j hj])]
theorem chk_j {m : ImR} {k : Nat} {e : Int} (h0 : (lk3 m 0).2.2 = 0) (h1 : (lk3 m 1).2.2 = 0) (h2 : (lk3 m 2).2.2 = 0) (hk : k < m.js.length) (h : ∀ j, j < k → jbAt m j = 0) (hf : jbAt m k = e) (he : e ≠ 0) : chk m = ((k : Int), 0, e) := by
  have q : lk3 m 3 = ((k : Int), (0 : Int), e) := by
    show (match fstN (fun i => decide (jbAt m i = 0)) m.js.length with | some i => ((i : Int), (0 : Int), jbAt m i) | none => (0, 0, 0)) = _
    rw [fstN_some hk (fun j hj => by simp [h j hj]) (by rw [hf]; simp [he])]
    show ((k : Int), (0 : Int), jbAt m k) = _
    rw [hf]
  rw [chk_1 h0, if_neg (by simp [h1]), if_neg (by simp [h2]), if_pos (by rw [q]; exact he), q]
theorem chk_n {m : ImR} (h0 : (lk3 m 0).2.2 = 0) (h1 : (lk3 m 1).2.2 = 0) (h2 : (lk3 m 2).2.2 = 0) (h : ∀ j, j < m.js.length → jbAt m j = 0) : chk m = (0, 0, 0) := by
  have q : (lk3 m 3).2.2 = 0 := by
    show (match fstN (fun i => decide (jbAt m i = 0)) m.js.length with | some i => ((i : Int), (0 : Int), jbAt m i) | none => (0, 0, 0)).2.2 = 0
    rw [fstN_none (fun j hj => by simp [h j hj])]
  rw [chk_1 h0, if_neg (by simp [h1]), if_neg (by simp [h2]), if_neg (by simp [q])]
set_option maxRecDepth 20000 in
set_option maxHeartbeats 16000000 in
theorem CheckR_of (m : ImR) (x1 x2 x3 : Option Addr) (p1 p2 p3 : Nat) (w : World) {S : Nat → Prop} (hS : ∀ b, S b → b < w.heap.size) (hq : ImQ S w m x1 x2 x3) (ho : ImOk m) :
    Calls Tryz.prog 18 #[ImB m x1 x2 x3 p1 p2 p3] w fun e w' => e = .returned (t3 (chk m)) ∧ Below w.heap.size w w' := by
  obtain ⟨o1, o2, o3, o4, o5, o6, o7⟩ := ho
  generalize hv : t3 (chk m) = VV
  have HV : Hid (t3 (chk m) = VV) := hv
  clear hv
  obtain ⟨AW, eW⟩ : ∃ AW, AW = w.alloc (.cells #[.string m.nm, .slice x1 m.cs.length p1, .slice x2 m.fs.length p2, .slice x3 m.js.length p3] 26 (0, 0)) := ⟨_, rfl⟩
  have AB0 : Below w.heap.size w AW := by rw [eW]; exact (Below.refl _ _).alloc (Nat.le_refl _) _
  have AX : Hid (AW.heap[w.heap.size]? = some (.cells #[.string m.nm, .slice x1 m.cs.length p1, .slice x2 m.fs.length p2, .slice x3 m.js.length p3] 26 (0, 0))) := by rw [eW]; exact heap_alloc_last _ _
  have WV : Hid (∀ V, Below AW.heap.size AW V → Below w.heap.size w V) := fun V h => AB0.trans (h.mono AB0.size)
  have SV : Hid (∀ V, Below AW.heap.size AW V → ∀ b, S b → b < V.heap.size) := fun V h b hb => Nat.lt_of_lt_of_le (hS b hb) (WV.out V h).size
  have FV : Hid (∀ V, Below AW.heap.size AW V → FrS S w V) := fun V h q hq => (WV.out V h).cell (hS _ hq)
  have IV : Hid (∀ V, Below AW.heap.size AW V → V.heap[w.heap.size]? = some (.cells #[.string m.nm, .slice x1 m.cs.length p1, .slice x2 m.fs.length p2, .slice x3 m.js.length p3] 26 (0, 0))) := fun V h => (h.block _ (blk_in AX.out)).trans AX.out
  have CC : Hid (∀ V, Below AW.heap.size AW V → ∀ k : Nat, k < m.cs.length → Calls Tryz.prog 38 #[.slice x1 m.cs.length p1, .int .i64 k] V fun e w' => e = .returned (.bool (ceAt m.cs k)) ∧ Below V.heap.size V w') := fun V h k hk => cellR_of m.cs x1 p1 k V (SV.out V h) (hq.1.fr (FV.out V h)) o2 hk
  have CF : Hid (∀ V, Below AW.heap.size AW V → ∀ (k : Nat) s, m.fs[k]? = some s → Calls Tryz.prog 39 #[ImB m x1 x2 x3 p1 p2 p3, .int .i64 k] V fun e w' => e = .returned (.bool (coB s m.cs.length)) ∧ Below V.heap.size V w') := fun V h k s hk => codeR_of m x1 x2 x3 p1 p2 p3 k s V (SV.out V h) (hq.2.1.frK keptF (FV.out V h)) o3 o5 hk
  have CJ : Hid (∀ V, Below AW.heap.size AW V → (lk3 m 2).2.2 = 0 → ∀ (k : Nat) s, m.js[k]? = some s → Calls Tryz.prog 41 #[ImB m x1 x2 x3 p1 p2 p3, .int .i64 k] V fun e w' => e = .returned (.bool (trB m s && rnB m s)) ∧ Below V.heap.size V w') := fun V h z k s hk => jobR_of m x1 x2 x3 p1 p2 p3 k s V (SV.out V h) ⟨hq.1.fr (FV.out V h), hq.2.1.frK keptF (FV.out V h), hq.2.2.frK keptJ (FV.out V h)⟩ o4 o5 o6 (codes_ce z) hk
  have RF : Hid (∀ V, Below AW.heap.size AW V → RwF 8 (FlP S V) S V x2 m.fs) := fun V h => hq.2.1.frK keptF (FV.out V h)
  have RJ : Hid (∀ V, Below AW.heap.size AW V → RwF 7 (JbP S V) S V x3 m.js) := fun V h => hq.2.2.frK keptJ (FV.out V h)
  have N1 : Hid (∀ W, Calls Tryz.prog 37 #[.string m.nm] W fun e w' => e = .returned (.bool (nameB m.nm)) ∧ w' = W) := fun W => IsNameR_of m.nm W (sh_max o1)
  have OF : Hid (∀ f ∈ m.fs, FlOk f) := o3
  have OJ : Hid (∀ j ∈ m.js, JbOk j) := o4
  have LC : Hid (m.cs.length ≤ 1048576) := o5
  have LF : Hid (m.fs.length ≤ 1048576) := o6
  have LJ : Hid (m.js.length ≤ 1048576) := o7
  clear hS hq o1 o2 o3 o4 o5 o6 o7 AB0 FV
  have A0 : Hid (Below AW.heap.size AW AW) := Below.refl _ _
  have i0 : AW.cell? ⟨w.heap.size, 0, none⟩ = some (.string m.nm) := by simp [World.cell?, AX.out]
  have i1 : AW.cell? ⟨w.heap.size, 1, none⟩ = some (.slice x1 m.cs.length p1) := by simp [World.cell?, AX.out]
  have i2 : AW.cell? ⟨w.heap.size, 2, none⟩ = some (.slice x2 m.fs.length p2) := by simp [World.cell?, AX.out]
  have i3 : AW.cell? ⟨w.heap.size, 3, none⟩ = some (.slice x3 m.js.length p3) := by simp [World.cell?, AX.out]
  go_enter Tryz.func18, Tryz.ntmps18
  go_upto_region 1 with fail
  rw [← eW]
  clear eW
  generalize hr0 : nameB m.nm = r0 at N1
  have R0 : Hid (nameB m.nm = r0) := hr0
  clear hr0
  go_wp2_with fail
  refine (N1.out _).mono ?_
  rintro e wN ⟨rfl, hN⟩
  rw [hN]
  clear hN wN
  cases r0
  case false =>
    have ev : VV = .tuple #[.int .i64 0, .int .i64 0, .int .i64 6] := by rw [← HV.out, chk_h1 R0.out]; rfl
    subst ev
    go_wp2
    exact bodyPost_ret (v := .tuple #[.int .i64 0, .int .i64 0, .int .i64 6]) (by simp [results, Tryz.results18, go_sem]) rfl ⟨rfl, WV.out _ A0.out⟩
  by_cases q1 : 4096 < m.cs.length
  case pos =>
    have iq : (4096 : Int) < (m.cs.length : Int) := by omega
    have ev : VV = .tuple #[.int .i64 4096, .int .i64 0, .int .i64 4] := by rw [← HV.out, chk_h2 R0.out q1]; rfl
    subst ev
    clear q1
    go_wp2
    exact bodyPost_ret (v := .tuple #[.int .i64 4096, .int .i64 0, .int .i64 4]) (by simp [results, Tryz.results18, go_sem]) rfl ⟨rfl, WV.out _ A0.out⟩
  have iq1 : ¬ (4096 : Int) < (m.cs.length : Int) := by omega
  have Q1 : Hid (¬ 4096 < m.cs.length) := q1
  clear q1
  by_cases q2 : 64 < m.fs.length
  case pos =>
    have iq : (64 : Int) < (m.fs.length : Int) := by omega
    have ev : VV = .tuple #[.int .i64 64, .int .i64 0, .int .i64 4] := by rw [← HV.out, chk_h3 R0.out Q1.out q2]; rfl
    subst ev
    clear q2
    go_wp2
    exact bodyPost_ret (v := .tuple #[.int .i64 64, .int .i64 0, .int .i64 4]) (by simp [results, Tryz.results18, go_sem]) rfl ⟨rfl, WV.out _ A0.out⟩
  have iq2 : ¬ (64 : Int) < (m.fs.length : Int) := by omega
  have Q2 : Hid (¬ 64 < m.fs.length) := q2
  clear q2
  by_cases q3 : 16 < m.js.length
  case pos =>
    have iq : (16 : Int) < (m.js.length : Int) := by omega
    have ev : VV = .tuple #[.int .i64 16, .int .i64 0, .int .i64 4] := by rw [← HV.out, chk_h4 R0.out Q1.out Q2.out q3]; rfl
    subst ev
    clear q3
    go_wp2
    exact bodyPost_ret (v := .tuple #[.int .i64 16, .int .i64 0, .int .i64 4]) (by simp [results, Tryz.results18, go_sem]) rfl ⟨rfl, WV.out _ A0.out⟩
  have iq3 : ¬ (16 : Int) < (m.js.length : Int) := by omega
  have Q3 : Hid (¬ 16 < m.js.length) := q3
  clear q3
  have K0 : Hid ((lk3 m 0).2.2 = 0) := lk_h R0.out Q1.out Q2.out Q3.out
  go_upto_region 9 with fail
  go_upto_region 10 with fail
  clear iq1 iq2 iq3 Q1 Q2 Q3 R0 N1 i0 i1 i2 i3
  go_loopw [5] (fun i wr => ∃ k : Nat, k ≤ m.cs.length ∧ i = .int .i64 k ∧ Below AW.heap.size AW wr ∧ ∀ j, j < k → ceAt m.cs j = true) (fun i _ => m.cs.length - (intOf i).toNat)
  case atStart => exact ⟨0, Nat.zero_le _, rfl, A0.out, fun j hj => absurd hj (Nat.not_lt_zero _)⟩
  case round =>
    obtain ⟨k, hk, rfl, hbw, hall⟩ := hrel
    have HW : Hid (Below AW.heap.size AW wr) := hbw
    have AL : Hid (∀ j, j < k → ceAt m.cs j = true) := hall
    clear hall hbw
    have i1 : wr.cell? ⟨w.heap.size, 1, none⟩ = some (.slice x1 m.cs.length p1) := by simp [World.cell?, IV.out wr HW.out]
    by_cases hlt : k < m.cs.length
    · have C1 : Hid (Calls Tryz.prog 38 #[.slice x1 m.cs.length p1, .int .i64 k] wr fun e w' => e = .returned (.bool (ceAt m.cs k)) ∧ Below wr.heap.size wr w') := CC.out wr HW.out k hlt
      have LT : Hid (k < m.cs.length) := hlt
      have kl : (k : Int) < m.cs.length := by omega
      have ek : wrap64 ((k : Int) + 1) = (k : Int) + 1 := by have := LC.out; unfold wrap64; omega
      clear hlt
      generalize hr : ceAt m.cs k = r at C1
      have HR : Hid (ceAt m.cs k = r) := hr
      clear hr
      go_wp2_with fail
      refine (C1.out).mono ?_
      rintro e v1 ⟨rfl, hb1⟩
      have V1 : Hid (Below AW.heap.size AW v1) := HW.out.trans (hb1.mono HW.out.size)
      clear hb1 i1
      cases r
      · have ev : VV = .tuple #[.int .i64 k, .int .i64 0, .int .i64 203] := by rw [← HV.out, chk_c K0.out LT.out AL.out HR.out]; rfl
        subst ev
        go_wp2
        exact bodyPost_ret (v := .tuple #[.int .i64 k, .int .i64 0, .int .i64 203]) (by simp [results, Tryz.results18, go_sem]) rfl ⟨rfl, WV.out _ V1.out⟩
      · go_wp2
        try rw [ek]
        exact ⟨⟨k + 1, Nat.succ_le_of_lt LT.out, rfl, V1.out, fun j hj => by
          rcases Nat.lt_succ_iff_lt_or_eq.1 hj with h | rfl
          · exact AL.out j h
          · exact HR.out⟩, msr LT.out⟩
    · have kl : ¬ (k : Int) < m.cs.length := by omega
      have ek : k = m.cs.length := by omega
      subst ek
      have K1 : Hid ((lk3 m 1).2.2 = 0) := lk_c AL.out
      clear hk hlt AL CC
      go_upto_region 14 with fail
      go_upto_region 15 with fail
      go_upto_region 16 with fail
      clear i1 kl
      obtain ⟨WO, eO⟩ : ∃ W, W = wr := ⟨_, rfl⟩
      subst eO
      go_loopw [6, 7] (fun t i wr => ∃ k : Nat, k ≤ m.fs.length ∧ t = .int .i64 (totK m.fs k) ∧ i = .int .i64 k ∧ totK m.fs k ≤ 16384 ∧ Below AW.heap.size AW wr ∧ ∀ j, j < k → (flAt m j).2 = 0) (fun _ i _ => m.fs.length - (intOf i).toNat)
      case atStart => exact ⟨0, Nat.zero_le _, rfl, rfl, by show 0 ≤ _; omega, HW.out, fun j hj => absurd hj (Nat.not_lt_zero _)⟩
      case round =>
        obtain ⟨k, hk, rfl, rfl, ht, hbw, hall⟩ := hrel
        have HX : Hid (Below AW.heap.size AW wr) := hbw
        have AL : Hid (∀ j, j < k → (flAt m j).2 = 0) := hall
        have HT : Hid (totK m.fs k ≤ 16384) := ht
        clear hall hbw ht HW
        have i2 : wr.cell? ⟨w.heap.size, 2, none⟩ = some (.slice x2 m.fs.length p2) := by simp [World.cell?, IV.out wr HX.out]
        by_cases hlt : k < m.fs.length
        · obtain ⟨a, rfl⟩ := (RF.out wr HX.out).some (by omega)
          obtain ⟨s, sv, se, _, ⟨sx, sc, sy, sd, rfl, sq⟩, sk⟩ := (RF.out wr HX.out).el k hlt
          have e0 := sk.c0
          have e1 := sk.cp 0 _ rfl
          have e2 := sk.cp 1 _ rfl
          have e3 := sk.cp 2 _ rfl
          have e4 := sk.cp 3 _ rfl
          have e5 := sk.cp 4 _ rfl
          have e6 := sk.cp 5 _ rfl
          have e7 := sk.cp 6 _ rfl
          have QS : Hid (FlQ S wr s sx sy) := sq
          have OK : Hid (FlOk s) := OF.out s (List.mem_of_getElem? se)
          have TS : Hid (totN m.fs k = totK m.fs k + s.os.length ∧ totK m.fs (k + 1) = totK m.fs k + s.os.length) := totK_succ se
          have LT : Hid (k < m.fs.length) := hlt
          have kl : (k : Int) < m.fs.length := by omega
          have FA : Hid (flAt m k = if nameB s.nm = false then ((0 : Int), (6 : Int)) else if coB s m.cs.length = false then (0, 202) else if 16384 < totK m.fs k + s.os.length ∨ 16384 < s.ls.length then (0, 4) else opQ s m.fs.length) := by
            show flAt m k = _
            unfold flAt opQ
            rw [se, TS.out.1]
            rfl
          have SB : Hid (coB s m.cs.length = true → (0 ≤ s.rg ∧ s.rg ≤ 8) ∧ (0 ≤ s.sl ∧ s.sl ≤ 1024)) := fun h => by
            unfold coB stB at h
            simp only [Bool.and_eq_true] at h
            exact ⟨inB_t h.1.1.1.2, inB_t h.1.1.2⟩
          have C1 : Hid (∀ V, Below AW.heap.size AW V → Calls Tryz.prog 39 #[ImB m x1 (some a) x3 p1 p2 p3, .int .i64 k] V fun e w' => e = .returned (.bool (coB s m.cs.length)) ∧ Below V.heap.size V w') := fun V h => CF.out V h k s se
          have N1 : Hid (∀ W, Calls Tryz.prog 37 #[.string s.nm] W fun e w' => e = .returned (.bool (nameB s.nm)) ∧ w' = W) := fun W => IsNameR_of s.nm W (sh_max OK.out.1)
          have ew : wrap64 ((totK m.fs k : Int) + s.os.length) = ((totK m.fs k + s.os.length : Nat) : Int) := by have := HT.out; have := OK.out.2.2.2.2.2.2.2.2.1; unfold wrap64; omega
          clear se hlt sk sq
          have za := block_lt_of_cell e0
          obtain ⟨AR, eR⟩ : ∃ AR, AR = wr.alloc (.cells #[.string s.nm, .int .i64 s.wh, .int .i64 s.ce, .int .i64 s.ba, .int .i64 s.rg, .int .i64 s.sl, .slice sx s.os.length sc, .slice sy s.ls.length sd] 44 (0, 0)) := ⟨_, rfl⟩
          have RB0 : Below wr.heap.size wr AR := by rw [eR]; exact (Below.refl _ _).alloc (Nat.le_refl _) _
          have RX : Hid (AR.heap[wr.heap.size]? = some (.cells #[.string s.nm, .int .i64 s.wh, .int .i64 s.ce, .int .i64 s.ba, .int .i64 s.rg, .int .i64 s.sl, .slice sx s.os.length sc, .slice sy s.ls.length sd] 44 (0, 0))) := by rw [eR]; exact heap_alloc_last _ _
          have RV : Hid (∀ V, Below AR.heap.size AR V → Below AW.heap.size AW V) := fun V h => HX.out.trans ((RB0.trans (h.mono RB0.size)).mono HX.out.size)
          have R0 : Hid (Below AR.heap.size AR AR) := Below.refl _ _
          have FX : Hid (∀ V, Below AR.heap.size AR V → V.heap[wr.heap.size]? = some (.cells #[.string s.nm, .int .i64 s.wh, .int .i64 s.ce, .int .i64 s.ba, .int .i64 s.rg, .int .i64 s.sl, .slice sx s.os.length sc, .slice sy s.ls.length sd] 44 (0, 0))) := fun V h => (h.block _ (blk_in RX.out)).trans RX.out
          have QV : Hid (∀ V, Below AR.heap.size AR V → FlQ S V s sx sy) := fun V h => QS.out.fr (fun q hq => (RB0.trans (h.mono RB0.size)).cell (SV.out wr HX.out _ hq))
          clear RB0
          go_upto_region 19 with fail
          rw [← eR]
          clear eR za i2 e0 e1 e2 e3 e4 e5 e6 e7
          have f0 : AR.cell? ⟨wr.heap.size, 0, none⟩ = some (.string s.nm) := by simp [World.cell?, FX.out AR R0.out]
          generalize hr0 : nameB s.nm = r0 at N1
          have HR0 : Hid (nameB s.nm = r0) := hr0
          clear hr0
          go_wp2_with fail
          refine (N1.out _).mono ?_
          rintro e wN ⟨rfl, hN⟩
          rw [hN]
          clear hN wN f0
          cases r0
          case false =>
            have ev : VV = .tuple #[.int .i64 k, .int .i64 0, .int .i64 6] := by rw [← HV.out, chk_f K0.out K1.out LT.out AL.out (show flAt m k = (0, 6) by rw [FA.out, if_pos HR0.out]) (by decide)]; rfl
            subst ev
            go_wp2
            exact bodyPost_ret (v := .tuple #[.int .i64 k, .int .i64 0, .int .i64 6]) (by simp [results, Tryz.results18, go_sem]) rfl ⟨rfl, WV.out _ (RV.out _ R0.out)⟩
          rw [if_neg (show ¬ nameB s.nm = false by rw [HR0.out]; simp)] at FA
          clear HR0 N1
          have i0 : AR.cell? ⟨w.heap.size, 0, none⟩ = some (.string m.nm) := by simp [World.cell?, IV.out AR (RV.out _ R0.out)]
          have i1 : AR.cell? ⟨w.heap.size, 1, none⟩ = some (.slice x1 m.cs.length p1) := by simp [World.cell?, IV.out AR (RV.out _ R0.out)]
          have i2 : AR.cell? ⟨w.heap.size, 2, none⟩ = some (.slice (some a) m.fs.length p2) := by simp [World.cell?, IV.out AR (RV.out _ R0.out)]
          have i3 : AR.cell? ⟨w.heap.size, 3, none⟩ = some (.slice x3 m.js.length p3) := by simp [World.cell?, IV.out AR (RV.out _ R0.out)]
          generalize hr1 : coB s m.cs.length = r1 at C1 FA SB
          clear hr1
          go_wp2_with fail
          refine (C1.out _ (RV.out _ R0.out)).mono ?_
          rintro e v1 ⟨rfl, hb1⟩
          have V1 : Hid (Below AR.heap.size AR v1) := R0.out.trans (hb1.mono R0.out.size)
          clear hb1 i0 i1 i2 i3 C1
          cases r1
          case false =>
            have ev : VV = .tuple #[.int .i64 k, .int .i64 0, .int .i64 202] := by rw [← HV.out, chk_f K0.out K1.out LT.out AL.out (show flAt m k = (0, 202) by rw [FA.out, if_pos rfl]) (by decide)]; rfl
            subst ev
            go_wp2
            exact bodyPost_ret (v := .tuple #[.int .i64 k, .int .i64 0, .int .i64 202]) (by simp [results, Tryz.results18, go_sem]) rfl ⟨rfl, WV.out _ (RV.out _ V1.out)⟩
          rw [if_neg (show ¬ true = false by simp)] at FA
          have f6 : v1.cell? ⟨wr.heap.size, 6, none⟩ = some (.slice sx s.os.length sc) := by simp [World.cell?, FX.out v1 V1.out]
          have f7 : v1.cell? ⟨wr.heap.size, 7, none⟩ = some (.slice sy s.ls.length sd) := by simp [World.cell?, FX.out v1 V1.out]
          by_cases t1 : 16384 < totK m.fs k + s.os.length
          case pos =>
            have t2 : (16384 : Int) < ((totK m.fs k + s.os.length : Nat) : Int) := by omega
            have ev : VV = .tuple #[.int .i64 k, .int .i64 0, .int .i64 4] := by rw [← HV.out, chk_f K0.out K1.out LT.out AL.out (show flAt m k = (0, 4) by rw [FA.out, if_pos (Or.inl t1)]) (by decide)]; rfl
            subst ev
            clear t1
            go_wp2
            exact bodyPost_ret (v := .tuple #[.int .i64 k, .int .i64 0, .int .i64 4]) (by simp [results, Tryz.results18, go_sem]) rfl ⟨rfl, WV.out _ (RV.out _ V1.out)⟩
          have t2 : ¬ (16384 : Int) < ((totK m.fs k + s.os.length : Nat) : Int) := by omega
          by_cases t3 : 16384 < s.ls.length
          case pos =>
            have t4 : (16384 : Int) < (s.ls.length : Int) := by omega
            have ev : VV = .tuple #[.int .i64 k, .int .i64 0, .int .i64 4] := by rw [← HV.out, chk_f K0.out K1.out LT.out AL.out (show flAt m k = (0, 4) by rw [FA.out, if_pos (Or.inr t3)]) (by decide)]; rfl
            subst ev
            clear t1 t3
            go_wp2
            exact bodyPost_ret (v := .tuple #[.int .i64 k, .int .i64 0, .int .i64 4]) (by simp [results, Tryz.results18, go_sem]) rfl ⟨rfl, WV.out _ (RV.out _ V1.out)⟩
          have t4 : ¬ (16384 : Int) < (s.ls.length : Int) := by omega
          rw [if_neg (show ¬ (16384 < totK m.fs k + s.os.length ∨ 16384 < s.ls.length) by omega)] at FA
          have TB : Hid (totK m.fs k + s.os.length ≤ 16384) := by show _ ≤ _; omega
          clear t1 t3
          go_upto_region 26 with fail
          go_upto_region 27 with fail
          clear f6 f7 t2 t4
          obtain ⟨WP, eP⟩ : ∃ W, W = wr := ⟨_, rfl⟩
          subst eP
          go_loopw [9] (fun i wr => ∃ p : Nat, p ≤ s.os.length ∧ i = .int .i64 p ∧ Below AR.heap.size AR wr ∧ ∀ j, j < p → opAt s m.fs.length j = true) (fun i _ => s.os.length - (intOf i).toNat)
          case atStart => exact ⟨0, Nat.zero_le _, rfl, V1.out, fun j hj => absurd hj (Nat.not_lt_zero _)⟩
          case round =>
            obtain ⟨p, hp, rfl, hbp, hal⟩ := hrel
            have VP : Hid (Below AR.heap.size AR wr) := hbp
            have AP : Hid (∀ j, j < p → opAt s m.fs.length j = true) := hal
            clear hbp hal V1
            have f6 : wr.cell? ⟨WP.heap.size, 6, none⟩ = some (.slice sx s.os.length sc) := by simp [World.cell?, FX.out wr VP.out]
            by_cases plt : p < s.os.length
            · obtain ⟨d, rfl⟩ := (QV.out wr VP.out).1.some (by omega)
              obtain ⟨o, ov, oe, ob, rfl, ok⟩ := (QV.out wr VP.out).1.el p plt
              have g0 := ok.c0
              have g1 := ok.cp 0 _ rfl
              have g2 := ok.cp 1 _ rfl
              have g3 := ok.cp 2 _ rfl
              have g4 := ok.cp 3 _ rfl
              have g5 := ok.cp 4 _ rfl
              have g6 := ok.cp 5 _ rfl
              have g7 := ok.cp 6 _ rfl
              have g8 := ok.cp 7 _ rfl
              have g9 := ok.cp 8 _ rfl
              have OO : Hid (OpOk o) := OK.out.2.2.2.2.2.2.1 o (List.mem_of_getElem? oe)
              have PL : Hid (p < s.os.length) := plt
              have pl : (p : Int) < s.os.length := by omega
              have ep : wrap64 ((p : Int) + 1) = (p : Int) + 1 := by have := TB.out; unfold wrap64; omega
              have M1 : Hid (∀ y : Sub wr, Calls Tryz.prog 40 #[OpV o, FlV s (some d) sy sc sd, .int .i64 m.fs.length] y.w fun e w' => e = .returned (.bool (opB o s.rg s.sl s.os.length m.fs.length)) ∧ Below y.w.heap.size y.w w') := fun y => instrR_of o s (some d) sy sc sd m.fs.length y.w OO.out (SB.out (by first | rfl | trivial)).1 (SB.out (by first | rfl | trivial)).2 OK.out.2.2.2.2.2.2.2.2.1 ⟨by omega, by have := LF.out; omega⟩
              have OA : Hid (opAt s m.fs.length p = opB o s.rg s.sl s.os.length m.fs.length) := by
                show _ = _
                unfold opAt
                rw [oe]
              go_upto_region 29 with fail
              clear f6 plt oe ok
              have zb : (d.add (p * 10)).block < wr.heap.size := block_lt_of_cell g0
              have h0 : ∀ y : Sub wr, y.w.cell? (d.add (p * 10)) = some (.int .i64 o.cd) := fun y => (y.h.cell zb).trans g0
              have h1 : ∀ y : Sub wr, y.w.cell? ⟨(d.add (p * 10)).block, (d.add (p * 10)).off + (0 + 1), none⟩ = some (.int .i64 o.a) := fun y => (y.h.cell (p := ⟨(d.add (p * 10)).block, (d.add (p * 10)).off + (0 + 1), none⟩) zb).trans g1
              have h2 : ∀ y : Sub wr, y.w.cell? ⟨(d.add (p * 10)).block, (d.add (p * 10)).off + (1 + 1), none⟩ = some (.int .i64 o.b) := fun y => (y.h.cell (p := ⟨(d.add (p * 10)).block, (d.add (p * 10)).off + (1 + 1), none⟩) zb).trans g2
              have h3 : ∀ y : Sub wr, y.w.cell? ⟨(d.add (p * 10)).block, (d.add (p * 10)).off + (2 + 1), none⟩ = some (.int .i64 o.c) := fun y => (y.h.cell (p := ⟨(d.add (p * 10)).block, (d.add (p * 10)).off + (2 + 1), none⟩) zb).trans g3
              have h4 : ∀ y : Sub wr, y.w.cell? ⟨(d.add (p * 10)).block, (d.add (p * 10)).off + (3 + 1), none⟩ = some (.int .i64 o.d) := fun y => (y.h.cell (p := ⟨(d.add (p * 10)).block, (d.add (p * 10)).off + (3 + 1), none⟩) zb).trans g4
              have h5 : ∀ y : Sub wr, y.w.cell? ⟨(d.add (p * 10)).block, (d.add (p * 10)).off + (4 + 1), none⟩ = some (.int .i64 o.lo) := fun y => (y.h.cell (p := ⟨(d.add (p * 10)).block, (d.add (p * 10)).off + (4 + 1), none⟩) zb).trans g5
              have h6 : ∀ y : Sub wr, y.w.cell? ⟨(d.add (p * 10)).block, (d.add (p * 10)).off + (5 + 1), none⟩ = some (.int .i64 o.hi) := fun y => (y.h.cell (p := ⟨(d.add (p * 10)).block, (d.add (p * 10)).off + (5 + 1), none⟩) zb).trans g6
              have h7 : ∀ y : Sub wr, y.w.cell? ⟨(d.add (p * 10)).block, (d.add (p * 10)).off + (6 + 1), none⟩ = some (.int .u8 o.vk) := fun y => (y.h.cell (p := ⟨(d.add (p * 10)).block, (d.add (p * 10)).off + (6 + 1), none⟩) zb).trans g7
              have h8 : ∀ y : Sub wr, y.w.cell? ⟨(d.add (p * 10)).block, (d.add (p * 10)).off + (7 + 1), none⟩ = some (.int .u64 o.vb) := fun y => (y.h.cell (p := ⟨(d.add (p * 10)).block, (d.add (p * 10)).off + (7 + 1), none⟩) zb).trans g8
              have h9 : ∀ y : Sub wr, y.w.cell? ⟨(d.add (p * 10)).block, (d.add (p * 10)).off + (8 + 1), none⟩ = some (.string o.vs) := fun y => (y.h.cell (p := ⟨(d.add (p * 10)).block, (d.add (p * 10)).off + (8 + 1), none⟩) zb).trans g9
              have f0 : ∀ y : Sub wr, y.w.cell? ⟨WP.heap.size, 0, none⟩ = some (.string s.nm) := fun y => (y.h.cell (p := ⟨WP.heap.size, 0, none⟩) (blk_in (FX.out wr VP.out))).trans (by simp [World.cell?, FX.out wr VP.out])
              have f1 : ∀ y : Sub wr, y.w.cell? ⟨WP.heap.size, 1, none⟩ = some (.int .i64 s.wh) := fun y => (y.h.cell (p := ⟨WP.heap.size, 1, none⟩) (blk_in (FX.out wr VP.out))).trans (by simp [World.cell?, FX.out wr VP.out])
              have f2 : ∀ y : Sub wr, y.w.cell? ⟨WP.heap.size, 2, none⟩ = some (.int .i64 s.ce) := fun y => (y.h.cell (p := ⟨WP.heap.size, 2, none⟩) (blk_in (FX.out wr VP.out))).trans (by simp [World.cell?, FX.out wr VP.out])
              have f3 : ∀ y : Sub wr, y.w.cell? ⟨WP.heap.size, 3, none⟩ = some (.int .i64 s.ba) := fun y => (y.h.cell (p := ⟨WP.heap.size, 3, none⟩) (blk_in (FX.out wr VP.out))).trans (by simp [World.cell?, FX.out wr VP.out])
              have f4 : ∀ y : Sub wr, y.w.cell? ⟨WP.heap.size, 4, none⟩ = some (.int .i64 s.rg) := fun y => (y.h.cell (p := ⟨WP.heap.size, 4, none⟩) (blk_in (FX.out wr VP.out))).trans (by simp [World.cell?, FX.out wr VP.out])
              have f5 : ∀ y : Sub wr, y.w.cell? ⟨WP.heap.size, 5, none⟩ = some (.int .i64 s.sl) := fun y => (y.h.cell (p := ⟨WP.heap.size, 5, none⟩) (blk_in (FX.out wr VP.out))).trans (by simp [World.cell?, FX.out wr VP.out])
              have f6 : ∀ y : Sub wr, y.w.cell? ⟨WP.heap.size, 6, none⟩ = some (.slice (some d) s.os.length sc) := fun y => (y.h.cell (p := ⟨WP.heap.size, 6, none⟩) (blk_in (FX.out wr VP.out))).trans (by simp [World.cell?, FX.out wr VP.out])
              have f7 : ∀ y : Sub wr, y.w.cell? ⟨WP.heap.size, 7, none⟩ = some (.slice sy s.ls.length sd) := fun y => (y.h.cell (p := ⟨WP.heap.size, 7, none⟩) (blk_in (FX.out wr VP.out))).trans (by simp [World.cell?, FX.out wr VP.out])
              have i2 : ∀ y : Sub wr, y.w.cell? ⟨w.heap.size, 2, none⟩ = some (.slice (some a) m.fs.length p2) := fun y => (y.h.cell (p := ⟨w.heap.size, 2, none⟩) (blk_in (IV.out wr (RV.out _ VP.out)))).trans (by simp [World.cell?, IV.out wr (RV.out _ VP.out)])
              clear g0 g1 g2 g3 g4 g5 g6 g7 g8 g9 ob
              generalize opB o s.rg s.sl s.os.length m.fs.length = r4 at M1 OA
              have WIN : Hid (∀ y : Sub wr, Below wr.heap.size wr y.w) := fun y => y.h
              refine wp_region_sub2 (by kernel_rfl) (by kernel_rfl) ?_
              intro cx
              clear cx
              repeat (first | go_big_quiet_skip | (go_big_quiet_want; go_big_quiet_op; first | go_big_quiet_on | (refine ⟨_, fun _ => rfl, ?_⟩; go_big_quiet_on) | go_big_quiet_call (first | (go_at_call 40; exact calls_sub (M1.out _)))))
              refine wpQuiet_nil ?_
              rintro _ ⟨y, rfl⟩
              have V5 : Hid (Below AR.heap.size AR y.w) := VP.out.trans ((WIN.out y).mono VP.out.size)
              generalize y.w = v5 at *
              clear WIN M1 i2 h0 h1 h2 h3 h4 h5 h6 h7 h8 h9 f0 f1 f2 f3 f4 f5 f6 f7 zb y
              cases r4
              · have QA : Hid (flAt m k = ((p : Int), (202 : Int))) := by
                  show _ = _
                  rw [FA.out]
                  unfold opQ
                  rw [fstN_some PL.out AP.out OA.out]
                have ev : VV = .tuple #[.int .i64 k, .int .i64 p, .int .i64 202] := by rw [← HV.out, chk_f K0.out K1.out LT.out AL.out QA.out (by decide)]; rfl
                subst ev
                go_wp2
                exact bodyPost_ret (v := .tuple #[.int .i64 k, .int .i64 p, .int .i64 202]) (by simp [results, Tryz.results18, go_sem]) rfl ⟨rfl, WV.out _ (RV.out _ V5.out)⟩
              · go_wp2
                try rw [ep]
                exact ⟨⟨p + 1, Nat.succ_le_of_lt PL.out, rfl, V5.out, fun j hj => by
                  rcases Nat.lt_succ_iff_lt_or_eq.1 hj with h | rfl
                  · exact AP.out j h
                  · exact OA.out⟩, msr PL.out⟩
            · have pl : ¬ (p : Int) < s.os.length := by omega
              have ep : p = s.os.length := by omega
              subst ep
              have QA : Hid ((flAt m k).2 = 0) := by
                show _ = _
                rw [FA.out]
                unfold opQ
                rw [fstN_none AP.out]
              have ek : wrap64 ((k : Int) + 1) = (k : Int) + 1 := by have := LF.out; have := LT.out; unfold wrap64; omega
              clear hp plt
              go_wp2
              try rw [ek]
              refine ⟨⟨k + 1, Nat.succ_le_of_lt LT.out, ?_, rfl, ?_, RV.out _ VP.out, fun j hj => ?_⟩, msr LT.out⟩
              · rw [TS.out.2]; simp
              · rw [TS.out.2]; exact TB.out
              · rcases Nat.lt_succ_iff_lt_or_eq.1 hj with h | rfl
                · exact AL.out j h
                · exact QA.out
        · have kl : ¬ (k : Int) < m.fs.length := by omega
          have ek : k = m.fs.length := by omega
          subst ek
          have K2 : Hid ((lk3 m 2).2.2 = 0) := lk_f AL.out
          clear hk hlt AL CF RF
          go_upto_region 31 with fail
          go_upto_region 32 with fail
          clear i2 kl HT
          obtain ⟨WP, eP⟩ : ∃ W, W = wr := ⟨_, rfl⟩
          subst eP
          go_loopw [10] (fun i wr => ∃ k : Nat, k ≤ m.js.length ∧ i = .int .i64 k ∧ Below AW.heap.size AW wr ∧ ∀ j, j < k → jbAt m j = 0) (fun i _ => m.js.length - (intOf i).toNat)
          case atStart => exact ⟨0, Nat.zero_le _, rfl, HX.out, fun j hj => absurd hj (Nat.not_lt_zero _)⟩
          case round =>
            obtain ⟨k, hk, rfl, hbw, hall⟩ := hrel
            have HY : Hid (Below AW.heap.size AW wr) := hbw
            have AL : Hid (∀ j, j < k → jbAt m j = 0) := hall
            clear hall hbw HX
            have i3 : wr.cell? ⟨w.heap.size, 3, none⟩ = some (.slice x3 m.js.length p3) := by simp [World.cell?, IV.out wr HY.out]
            by_cases hlt : k < m.js.length
            · obtain ⟨a, rfl⟩ := (RJ.out wr HY.out).some (by omega)
              obtain ⟨s, sv, se, _, ⟨sx, sc, sy, sd, rfl, sq⟩, sk⟩ := (RJ.out wr HY.out).el k hlt
              have LT : Hid (k < m.js.length) := hlt
              have kl : (k : Int) < m.js.length := by omega
              have ek : wrap64 ((k : Int) + 1) = (k : Int) + 1 := by have := LJ.out; unfold wrap64; omega
              have JA : Hid (jbAt m k = if ((m.js.take k).any (fun x => decide (x.nm = s.nm)) || !nameB s.nm) = true then 6 else if (trB m s && rnB m s) = true then 0 else 204) := by
                show jbAt m k = _
                unfold jbAt
                rw [se]
              have C1 : Hid (∀ V, Below AW.heap.size AW V → Calls Tryz.prog 41 #[ImB m x1 x2 (some a) p1 p2 p3, .int .i64 k] V fun e w' => e = .returned (.bool (trB m s && rnB m s)) ∧ Below V.heap.size V w') := fun V h => CJ.out V h K2.out k s se
              have N1 : Hid (∀ W, Calls Tryz.prog 37 #[.string s.nm] W fun e w' => e = .returned (.bool (nameB s.nm)) ∧ w' = W) := fun W => IsNameR_of s.nm W (sh_max (OJ.out s (List.mem_of_getElem? se)).1)
              have e0 := sk.c0
              have EK : Hid (∀ V, Below wr.heap.size wr V → V.cell? (a.add (k * 7)) = some (.string s.nm)) := fun V h => (h.cell (block_lt_of_cell e0)).trans e0
              have ES : Hid (m.js[k]? = some s) := se
              clear hlt se sq sk e0
              go_upto_region 34 with fail
              go_upto_region 35 with fail
              go_upto_region 36 with fail
              clear i3
              obtain ⟨WJ, eJ⟩ : ∃ W, W = wr := ⟨_, rfl⟩
              subst eJ
              go_loopw [11, 12] (fun t i wr => ∃ q : Nat, q ≤ k ∧ t = .bool ((m.js.take q).any (fun x => decide (x.nm = s.nm))) ∧ i = .int .i64 q ∧ Below WJ.heap.size WJ wr) (fun _ i _ => k - (intOf i).toNat)
              case atStart => exact ⟨0, Nat.zero_le _, rfl, rfl, Below.refl _ _⟩
              case round =>
                obtain ⟨q, hq, rfl, rfl, hbq⟩ := hrel
                have HQ : Hid (Below WJ.heap.size WJ wr) := hbq
                have YV : Hid (∀ V, Below WJ.heap.size WJ V → Below AW.heap.size AW V) := fun V h => HY.out.trans (h.mono HY.out.size)
                clear hbq
                by_cases qlt : q < k
                · obtain ⟨t, tv, te, _, ⟨tx, tc, ty, td, rfl, tq⟩, tk⟩ := (RJ.out wr (YV.out _ HQ.out)).el q (by have := LT.out; omega)
                  have QL : Hid (q < k) := qlt
                  have ql : (q : Int) < k := by omega
                  have qj : (q : Int) < m.js.length := by omega
                  have eq1 : wrap64 ((q : Int) + 1) = (q : Int) + 1 := by have := LJ.out; have := LT.out; unfold wrap64; omega
                  have TK : Hid ((m.js.take (q + 1)).any (fun x => decide (x.nm = s.nm)) = ((m.js.take q).any (fun x => decide (x.nm = s.nm)) || decide (t.nm = s.nm))) := by
                    show _ = _
                    rw [List.take_add_one, te]
                    simp
                  have t0 := tk.c0
                  have tb := block_lt_of_cell t0
                  clear te tq tk qlt
                  go_upto_region 38 with fail
                  generalize (m.js.take q).any (fun x => decide (x.nm = s.nm)) = b at *
                  have WIN : Hid (∀ y : Sub wr, Below wr.heap.size wr y.w) := fun y => y.h
                  have i3 : ∀ y : Sub wr, y.w.cell? ⟨w.heap.size, 3, none⟩ = some (.slice (some a) m.js.length p3) := fun y => (y.h.cell (p := ⟨w.heap.size, 3, none⟩) (blk_in (IV.out wr (YV.out _ HQ.out)))).trans (by simp [World.cell?, IV.out wr (YV.out _ HQ.out)])
                  have h0 : ∀ y : Sub wr, y.w.cell? (a.add (q * 7)) = some (.string t.nm) := fun y => (y.h.cell tb).trans t0
                  have h1 : ∀ y : Sub wr, y.w.cell? (a.add (k * 7)) = some (.string s.nm) := fun y => EK.out y.w (HQ.out.trans (y.h.mono HQ.out.size))
                  clear t0 tb
                  by_cases g1 : t.nm = s.nm
                  · have g2 : (t.nm.toList == s.nm.toList) = true := by rw [g1]; simp
                    rw [decide_eq_true g1] at TK
                    clear g1
                    cases b
                    all_goals
                      refine wp_region_sub2 (by kernel_rfl) (by kernel_rfl) ?_
                      intro cx
                      clear cx
                      repeat (first | go_big_quiet_skip | (go_big_quiet_want; go_big_quiet_op; first | go_big_quiet_on | (refine ⟨_, fun _ => rfl, ?_⟩; go_big_quiet_on) | go_big_quiet_call (first | fail)))
                      refine wpQuiet_nil ?_
                      rintro _ ⟨y, rfl⟩
                      have V5 : Hid (Below WJ.heap.size WJ y.w) := HQ.out.trans ((WIN.out y).mono HQ.out.size)
                      clear i3 h0 h1 WIN
                      go_wp2
                      try rw [eq1]
                      exact ⟨⟨q + 1, Nat.succ_le_of_lt QL.out, by rw [TK.out]; rfl, rfl, V5.out⟩, msr QL.out⟩
                  · have g2 : (t.nm.toList == s.nm.toList) = false := by
                      rw [beq_eq_false_iff_ne]
                      intro q
                      exact g1 (ByteArray.ext (Array.toList_inj.1 (by simpa [ByteArray.toList_eq] using q)))
                    rw [decide_eq_false g1] at TK
                    clear g1
                    cases b
                    all_goals
                      refine wp_region_sub2 (by kernel_rfl) (by kernel_rfl) ?_
                      intro cx
                      clear cx
                      repeat (first | go_big_quiet_skip | (go_big_quiet_want; go_big_quiet_op; first | go_big_quiet_on | (refine ⟨_, fun _ => rfl, ?_⟩; go_big_quiet_on) | go_big_quiet_call (first | fail)))
                      refine wpQuiet_nil ?_
                      rintro _ ⟨y, rfl⟩
                      have V5 : Hid (Below WJ.heap.size WJ y.w) := HQ.out.trans ((WIN.out y).mono HQ.out.size)
                      clear i3 h0 h1 WIN
                      go_wp2
                      try rw [eq1]
                      exact ⟨⟨q + 1, Nat.succ_le_of_lt QL.out, by rw [TK.out]; rfl, rfl, V5.out⟩, msr QL.out⟩
                · have ql : ¬ (q : Int) < k := by omega
                  have eqk : q = k := by omega
                  subst eqk
                  clear hq qlt
                  go_upto_region 39 with fail
                  have V0 : Hid (Below AW.heap.size AW wr) := YV.out _ HQ.out
                  have e0 := EK.out wr HQ.out
                  have i0 : wr.cell? ⟨w.heap.size, 0, none⟩ = some (.string m.nm) := by simp [World.cell?, IV.out wr V0.out]
                  have i1 : wr.cell? ⟨w.heap.size, 1, none⟩ = some (.slice x1 m.cs.length p1) := by simp [World.cell?, IV.out wr V0.out]
                  have i2 : wr.cell? ⟨w.heap.size, 2, none⟩ = some (.slice x2 m.fs.length p2) := by simp [World.cell?, IV.out wr V0.out]
                  have i3 : wr.cell? ⟨w.heap.size, 3, none⟩ = some (.slice (some a) m.js.length p3) := by simp [World.cell?, IV.out wr V0.out]
                  have C2 : Hid (Calls Tryz.prog 41 #[ImB m x1 x2 (some a) p1 p2 p3, .int .i64 q] wr fun e w' => e = .returned (.bool (trB m s && rnB m s)) ∧ Below wr.heap.size wr w') := C1.out wr V0.out
                  have BAD : Hid (∀ e : Int, jbAt m q = e → e ≠ 0 → VV = .tuple #[.int .i64 q, .int .i64 0, .int .i64 e]) := fun e h he => by rw [← HV.out, chk_j K0.out K1.out K2.out LT.out AL.out h he]; rfl
                  clear C1 YV EK HQ
                  generalize (m.js.take q).any (fun x => decide (x.nm = s.nm)) = b at *
                  generalize nameB s.nm = r0 at *
                  generalize (trB m s && rnB m s) = r1 at *
                  cases b
                  case true =>
                    have ev : VV = .tuple #[.int .i64 q, .int .i64 0, .int .i64 6] := BAD.out 6 (by rw [JA.out, if_pos (by rfl)]) (by decide)
                    subst ev
                    go_wp2
                    exact bodyPost_ret (v := .tuple #[.int .i64 q, .int .i64 0, .int .i64 6]) (by simp [results, Tryz.results18, go_sem]) rfl ⟨rfl, WV.out _ V0.out⟩
                  go_wp2_with fail
                  refine (N1.out _).mono ?_
                  rintro e wN ⟨rfl, hN⟩
                  rw [hN]
                  clear hN wN
                  cases r0
                  case false =>
                    have ev : VV = .tuple #[.int .i64 q, .int .i64 0, .int .i64 6] := BAD.out 6 (by rw [JA.out, if_pos (by rfl)]) (by decide)
                    subst ev
                    go_wp2
                    exact bodyPost_ret (v := .tuple #[.int .i64 q, .int .i64 0, .int .i64 6]) (by simp [results, Tryz.results18, go_sem]) rfl ⟨rfl, WV.out _ V0.out⟩
                  go_wp2_with fail
                  refine (C2.out).mono ?_
                  rintro e v1 ⟨rfl, hb1⟩
                  have V1 : Hid (Below AW.heap.size AW v1) := V0.out.trans (hb1.mono V0.out.size)
                  clear hb1 i0 i1 i2 i3 e0
                  cases r1
                  case false =>
                    have ev : VV = .tuple #[.int .i64 q, .int .i64 0, .int .i64 204] := BAD.out 204 (by rw [JA.out, if_neg (by simp), if_neg (by simp)]) (by decide)
                    subst ev
                    go_wp2
                    exact bodyPost_ret (v := .tuple #[.int .i64 q, .int .i64 0, .int .i64 204]) (by simp [results, Tryz.results18, go_sem]) rfl ⟨rfl, WV.out _ V1.out⟩
                  have J0 : Hid (jbAt m q = 0) := by show _ = _; rw [JA.out, if_neg (by simp), if_pos rfl]
                  go_wp2
                  try rw [ek]
                  exact ⟨⟨q + 1, Nat.succ_le_of_lt LT.out, rfl, V1.out, fun j hj => by
                    rcases Nat.lt_succ_iff_lt_or_eq.1 hj with h | rfl
                    · exact AL.out j h
                    · exact J0.out⟩, msr LT.out⟩
            · have kl : ¬ (k : Int) < m.js.length := by omega
              have ek : k = m.js.length := by omega
              subst ek
              have ev : VV = .tuple #[.int .i64 0, .int .i64 0, .int .i64 0] := by rw [← HV.out, chk_n K0.out K1.out K2.out AL.out]; rfl
              subst ev
              clear hk hlt
              go_wp2
              exact bodyPost_ret (v := .tuple #[.int .i64 0, .int .i64 0, .int .i64 0]) (by simp [results, Tryz.results18, go_sem]) rfl ⟨rfl, WV.out _ HY.out⟩
end Go.Proofs.YtdcjngakmkgbmaaGreat
