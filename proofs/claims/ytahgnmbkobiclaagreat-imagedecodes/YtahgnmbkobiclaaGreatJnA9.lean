/- The document's image: small functions; no statement of the seat is proved here. -/
import Derived.Test.YtahgnmbkobiclaaGreatCkHJ
import Derived.Test.YtahgnmbkobiclaaGreatCuGJ
import Derived.Test.YtahgnmbkobiclaaGreatJnA5
import Derived.Test.YtahgnmbkobiclaaGreatJnA3
namespace Go.Proofs.YtahgnmbkobiclaaGreat
set_option linter.unusedVariables false
open Go.RowKit
theorem eqZv (k b : Int) (s : ByteArray) (w : World) : (binOp .eql 48 (.agg #[.int .u8 k, .int .u64 b, .string s]) (.agg #[.int .u8 0, .int .u64 0, .string ⟨#[]⟩])).run Tryz.prog w = .ok (.bool (decide (k = 0) && decide (b = 0) && emB s)) w := by
  unfold emB
  by_cases h1 : k = 0
  · subst h1
    by_cases h2 : b = 0
    · subst h2
      by_cases h3 : s.toList = []
      · simp [go_sem, h3]
      · simp [go_sem, h3]
    · simp [go_sem, h2]
  · simp [go_sem, h1]
set_option maxRecDepth 20000 in
set_option maxHeartbeats 4000000 in
theorem mayHold_of (o : OpR) (ho : OpOk o) (w : World) : Calls Tryz.prog 105 #[OpV o] w fun e w' => e = .returned (.bool (hdB o)) ∧ Below w.heap.size w w' := by
  obtain ⟨h1, h2, h3, h4, h5, h6, h7, h8, h9, h10⟩ := ho
  have g8 := wf_u8 h8
  have g9 := wf_u64 h9
  have g10 := sh_max h10
  clear h1 h2 h3 h4 h5 h6 h7 h8 h9 h10
  obtain ⟨cd, oa, ob, oc, od, lo, hi, vk, vb, vs⟩ := o
  simp only at g8 g9 g10
  unfold hdB
  simp only
  have M1 : Hid (∀ W, Calls Tryz.prog 131 #[.agg #[.int .u8 vk, .int .u64 vb, .string vs]] W fun e w' => e = .returned (.bool (may3 vk vb vs)) ∧ Below W.heap.size W w') := fun W => May_of vk vb vs W g9.1 g9.2 g8 g10
  clear g8 g9 g10
  by_cases q : cd = 1
  · subst q
    rw [if_pos rfl]
    have ev := eqNw vk vb vs
    generalize may3 vk vb vs = r1 at *
    generalize nwB vk vb vs = r2 at *
    have N1 : Hid (∀ W, Calls Tryz.prog 127 #[] W fun e w' => e = .returned (.agg #[.int .u8 20, .int .u64 0, .string ⟨#[]⟩]) ∧ Below W.heap.size W w') := fun W => nowhere_of W
    cases r1
    all_goals
      go_enter Tryz.func105, Tryz.ntmps105
      go_wp2_with fail
      obtain ⟨AW, eW⟩ : ∃ AW, AW = w.alloc (.cells #[.int .i64 1, .int .i64 oa, .int .i64 ob, .int .i64 oc, .int .i64 od, .int .i64 lo, .int .i64 hi, .int .u8 vk, .int .u64 vb, .string vs] 86 (0, 0)) := ⟨_, rfl⟩
      have AX : AW.heap[w.heap.size]? = some (.cells #[.int .i64 1, .int .i64 oa, .int .i64 ob, .int .i64 oc, .int .i64 od, .int .i64 lo, .int .i64 hi, .int .u8 vk, .int .u64 vb, .string vs] 86 (0, 0)) := by rw [eW]; exact heap_alloc_last _ _
      have AB : Hid (Below w.heap.size w AW) := by rw [eW]; exact (Below.refl _ _).alloc (Nat.le_refl _) _
      rw [← eW]
      clear eW
      have zl := blk_in AX
      have c7 : ∀ y : Sub AW, y.w.cell? ⟨w.heap.size, 7, none⟩ = some (.int .u8 vk) := fun y => (y.h.cell (p := ⟨w.heap.size, 7, none⟩) zl).trans (by simp [World.cell?, AX])
      have c8 : ∀ y : Sub AW, y.w.cell? ⟨w.heap.size, 8, none⟩ = some (.int .u64 vb) := fun y => (y.h.cell (p := ⟨w.heap.size, 8, none⟩) zl).trans (by simp [World.cell?, AX])
      have c9 : ∀ y : Sub AW, y.w.cell? ⟨w.heap.size, 9, none⟩ = some (.string vs) := fun y => (y.h.cell (p := ⟨w.heap.size, 9, none⟩) zl).trans (by simp [World.cell?, AX])
      have M2 : Hid (∀ y : Sub AW, _) := fun y => M1.out y.w
      have N2 : Hid (∀ y : Sub AW, _) := fun y => N1.out y.w
      clear AX
      refine wp_region_sub2 (by kernel_rfl) (by kernel_rfl) ?_
      intro cx
      clear cx
      repeat (first | go_big_quiet_skip | (go_big_quiet_want; go_big_quiet_op; first | go_big_quiet_on | (refine ⟨_, fun _ => rfl, ?_⟩; go_big_quiet_on) | go_big_quiet_call (first | (go_at_call 127; exact calls_sub (N2.out _)) | (go_at_call 131; exact calls_sub (M2.out _)))))
      refine wpQuiet_nil ?_
      rintro _ ⟨y, rfl⟩
      have Y : Hid (Below w.heap.size w y.w) := bl_tr AB.out y.h
      clear c7 c8 c9 N2 M2 zl ev
      go_wp2
      go_ret
      exact ⟨by first | rfl | simp, Y.out⟩
  · rw [if_neg q]
    have p : (cd == 1) = false := by simp [q]
    clear q M1
    have ev := eqZv vk vb vs
    generalize (decide (vk = 0) && decide (vb = 0) && emB vs) = r at *
    go_enter Tryz.func105, Tryz.ntmps105
    go_wp2
    go_ret
    exact ⟨rfl, by go_grown⟩
end Go.Proofs.YtahgnmbkobiclaaGreat
namespace Go.Proofs.YtahgnmbkobiclaaGreat
set_option linter.unusedVariables false
open Go.RowKit
theorem ls_bad {f : FlR} {k : Nat} {s : LpR} (h : f.ls[k]? = some s) (hb : lpB f.os.length s = false) : lsB f = false := by
  unfold lsB
  rw [List.all_eq_false]
  exact ⟨s, List.mem_of_getElem? h, by rw [hb]; simp⟩
set_option maxRecDepth 20000 in
set_option maxHeartbeats 4000000 in
theorem mayLoop_of (f : FlR) (x1 x2 : Option Addr) (p1 p2 : Nat) (w : World) {S : Nat → Prop} (hS : ∀ b, S b → b < w.heap.size) (ha : RwF 3 (Is lpC) S w x2 f.ls) : Calls Tryz.prog 55 #[FlV f x1 x2 p1 p2] w fun e w' => e = .returned (.bool (lsB f)) ∧ Below w.heap.size w w' := by
  have HA : Hid (RwF 3 (Is lpC) S w x2 f.ls) := ha
  have HS : Hid (∀ b, S b → b < w.heap.size) := hS
  clear ha hS
  generalize hv : lsB f = VV
  have HV : Hid (lsB f = VV) := hv
  clear hv
  obtain ⟨AW, eW⟩ : ∃ AW, AW = w.alloc (.cells #[.string f.nm, .int .i64 f.wh, .int .i64 f.ce, .int .i64 f.ba, .int .i64 f.rg, .int .i64 f.sl, .slice x1 f.os.length p1, .slice x2 f.ls.length p2] 78 (0, 0)) := ⟨_, rfl⟩
  have AX : Hid (AW.heap[w.heap.size]? = some (.cells #[.string f.nm, .int .i64 f.wh, .int .i64 f.ce, .int .i64 f.ba, .int .i64 f.rg, .int .i64 f.sl, .slice x1 f.os.length p1, .slice x2 f.ls.length p2] 78 (0, 0))) := by rw [eW]; exact heap_alloc_last _ _
  have AB : Hid (Below w.heap.size w AW) := by rw [eW]; exact (Below.refl _ _).alloc (Nat.le_refl _) _
  go_enter Tryz.func55, Tryz.ntmps55
  go_wp2_with fail
  rw [← eW]
  clear eW
  go_loopw [8] (fun i wr => ∃ k : Nat, k ≤ f.ls.length ∧ i = .int .i64 k ∧ Below w.heap.size w wr ∧ wr.heap[w.heap.size]? = some (.cells #[.string f.nm, .int .i64 f.wh, .int .i64 f.ce, .int .i64 f.ba, .int .i64 f.rg, .int .i64 f.sl, .slice x1 f.os.length p1, .slice x2 f.ls.length p2] 78 (0, 0)) ∧ ∀ (j : Nat) s, j < k → f.ls[j]? = some s → lpB f.os.length s = true) (fun i _ => f.ls.length - (intOf i).toNat)
  case atStart => exact ⟨0, Nat.zero_le _, rfl, AB.out, AX.out, fun j s hj => absurd hj (Nat.not_lt_zero _)⟩
  case round =>
    obtain ⟨k, hk, rfl, hbw, hx, hall⟩ := hrel
    have HW : Hid (Below w.heap.size w wr) := hbw
    have HX : Hid (wr.heap[w.heap.size]? = some (.cells #[.string f.nm, .int .i64 f.wh, .int .i64 f.ce, .int .i64 f.ba, .int .i64 f.rg, .int .i64 f.sl, .slice x1 f.os.length p1, .slice x2 f.ls.length p2] 78 (0, 0))) := hx
    have AL : Hid _ := hall
    clear hall AX AB
    by_cases hlt : k < f.ls.length
    · obtain ⟨a, rfl⟩ := HA.out.some (by omega)
      obtain ⟨s, sv, se, _, rfl, sk⟩ := (HA.out.fr (w' := wr) (fun q hq => hbw.cell (HS.out _ hq))).el k hlt
      have e0 := sk.c0
      have e1 := sk.cp 0 _ rfl
      have e2 := sk.cp 1 _ rfl
      have ES : Hid (f.ls[k]? = some s) := se
      have LT : Hid (k < f.ls.length) := hlt
      have kl : (k : Int) < f.ls.length := by omega
      clear hbw se hlt sk
      have za := block_lt_of_cell e0
      have GA : Hid (∀ X : Obj, Below wr.heap.size wr (wr.alloc X)) := fun X => (Below.refl _ _).alloc (Nat.le_refl _) _
      have k6 : ∀ X : Obj, (wr.alloc X).cell? ⟨w.heap.size, 6, none⟩ = some (.slice x1 f.os.length p1) := fun X => ((GA.out X).cell (p := ⟨w.heap.size, 6, none⟩) (blk_in hx)).trans (by simp [World.cell?, hx])
      clear hx
      obtain ⟨hd, en, tm⟩ := s
      simp only at e0 e1 e2
      by_cases c1 : 0 ≤ hd
      case neg =>
        have ans : lsB f = false := ls_bad ES.out (by unfold lpB; simp [c1])
        have AN : Hid _ := ans
        clear ans
        have ev : VV = false := HV.out.symm.trans AN.out
        subst ev
        go_wp2
        go_ret
        exact ⟨rfl, HW.out.trans ((GA.out _).mono HW.out.size)⟩
      by_cases c2 : hd ≤ en
      case neg =>
        have ans : lsB f = false := ls_bad ES.out (by unfold lpB; simp [c2])
        have AN : Hid _ := ans
        clear ans
        have ev : VV = false := HV.out.symm.trans AN.out
        subst ev
        go_wp2
        go_ret
        exact ⟨rfl, HW.out.trans ((GA.out _).mono HW.out.size)⟩
      by_cases c3 : en ≤ f.os.length
      case neg =>
        have ans : lsB f = false := ls_bad ES.out (by unfold lpB; simp [c3])
        have AN : Hid _ := ans
        clear ans
        have ev : VV = false := HV.out.symm.trans AN.out
        subst ev
        go_wp2
        go_ret
        exact ⟨rfl, HW.out.trans ((GA.out _).mono HW.out.size)⟩
      have H1 : Hid (∀ W, Calls Tryz.prog 101 #[.agg #[.int .i64 0, .int .i64 65536], .int .i64 tm] W fun e w' => e = .returned (.bool (inB 0 65536 tm)) ∧ Below W.heap.size W w') := fun W => has_of _ _ _ W
      have LP : Hid (lpB f.os.length ⟨hd, en, tm⟩ = inB 0 65536 tm) := by show lpB _ _ = _; unfold lpB; simp [c1, c2, c3]
      generalize inB 0 65536 tm = r at *
      go_wp2_with fail
      refine (H1.out _).mono ?_
      rintro e w5 ⟨rfl, hb⟩
      have B5 : Hid (Below wr.heap.size wr w5) := (GA.out _).trans (hb.mono (GA.out _).size)
      clear hb e0 e1 e2 za k6
      cases r
      · have ev : VV = false := HV.out.symm.trans (ls_bad ES.out LP.out)
        subst ev
        go_wp2
        go_ret
        exact ⟨rfl, HW.out.trans (B5.out.mono HW.out.size)⟩
      · have ew : wrap64 ((k : Int) + 1) = (k : Int) + 1 := by have := HA.out.1; have := LT.out; unfold wrap64; omega
        go_wp2
        rw [ew]
        exact ⟨⟨k + 1, Nat.succ_le_of_lt LT.out, rfl, HW.out.trans (B5.out.mono HW.out.size), (B5.out.block _ (blk_in HX.out)).trans HX.out, fun j t hj ht => by
          rcases Nat.lt_succ_iff_lt_or_eq.1 hj with h | rfl
          · exact AL.out j t h ht
          · rw [ES.out] at ht; cases ht; exact LP.out⟩, msr LT.out⟩
    · have kl : ¬ (k : Int) < f.ls.length := by omega
      have ev : VV = true := HV.out.symm.trans (by
        unfold lsB
        rw [List.all_eq_true]
        intro t ht
        obtain ⟨j, hj⟩ := List.mem_iff_getElem?.1 ht
        exact AL.out j t (by have := (List.getElem?_eq_some_iff.1 hj).1; omega) hj)
      subst ev
      clear hbw hlt hx
      go_wp2
      go_ret
      exact ⟨rfl, HW.out⟩
end Go.Proofs.YtahgnmbkobiclaaGreat
namespace Go.Proofs.YtahgnmbkobiclaaGreat
set_option linter.unusedVariables false
open Go.RowKit
theorem rw_row' {α : Type} {n : Nat} {P : (Nat → Prop) → World → α → List Value → Prop} (K : Kept P) {a r : Nat} {w : World} {x : Option Addr} {l : List α} {vs : Array Value} (h : RwF n (P (Fresh (r + 2) w.heap.size) w) (Fresh (r + 2) w.heap.size) w x l) (ha : a ≤ r) : RwF n (P (Fresh a (w.setRow r vs).heap.size) (w.setRow r vs)) (Fresh a (w.setRow r vs).heap.size) (w.setRow r vs) x l :=
  RwF.subK K (up_sub' (by omega) (by simp [World.setRow])) (h.frK K (fun q hq => World.cell?_of_block (setRow_other _ _ _ _ (by have := hq.1; omega))))
theorem rdL_z {α : Type} (rd : RS → α × RS) (bs : List Nat) (s : RS) : rdL rd bs s = (rdKL rd (rdCz bs s).toNat (rdC bs s).2, rdKS rd (rdCz bs s).toNat (rdC bs s).2) := by
  unfold rdL rdCz
  by_cases q : (rdC bs s).2.y = 0
  · rw [if_pos q]
  · rw [if_neg q, rdKL_bad rd _ q, rdKL_bad rd _ q, rdKS_bad rd _ q, rdKS_bad rd _ q]
theorem rdCz_le {bs : List Nat} {s : RS} (h : bs.length ≤ 4194304) : 0 ≤ rdCz bs s ∧ rdCz bs s ≤ 4194304 := by
  unfold rdCz
  by_cases q : (rdC bs s).2.y = 0
  · rw [if_pos q]
    have := rdC_ok q
    omega
  · rw [if_neg q]; omega
set_option maxRecDepth 20000 in
set_option maxHeartbeats 8000000 in
theorem numbersC (g kb o c : Nat) (bs : List Nat) (s : RS) (w : World) (h : Cu g kb o c bs s w) :
    Calls Tryz.prog 64 #[.pointer (some ⟨g, 0, none⟩)] w fun e w' => (∃ y k, e = .returned (.slice y (rdL (rdN bs) bs s).1.length k) ∧ RwF 1 ((fun S w => Is inC) (Fresh w.heap.size w'.heap.size) w') (Fresh w.heap.size w'.heap.size) w' y (rdL (rdN bs) bs s).1) ∧ Cu g kb o c bs (rdL (rdN bs) bs s).2 w' ∧ w.grownBy w' (some g) := by
  have CT : Hid (Calls Tryz.prog 29 #[.pointer (some ⟨g, 0, none⟩)] w fun e w' => e = .returned (.int .i64 (rdCz bs s)) ∧ Cu g kb o c bs (rdC bs s).2 w' ∧ w.grownBy w' (some g)) := countC g kb o c bs s w h
  have OK : Hid (0 ≤ rdCz bs s ∧ rdCz bs s ≤ 4194304) := rdCz_le h.n4
  have HE : Hid (∀ (s : RS) (W : World), Cu g kb o c bs s W → Calls Tryz.prog 59 #[.pointer (some ⟨g, 0, none⟩)] W fun e w' => e = .returned (.int .i64 (rdN bs s).1) ∧ Cu g kb o c bs (rdN bs s).2 w' ∧ W.grownBy w' (some g)) := numberC g kb o c bs
  rw [rdL_z]
  generalize rdCz bs s = N at *
  generalize (rdC bs s).2 = s1 at *
  generalize rdN bs = rd at *
  clear h
  go_enter Tryz.func64, Tryz.ntmps64
  go_wp2_with (go_at_call 29; refine (CT.out).mono ?_)
  first | (rintro e w1 ⟨he, h1, g1⟩; have he' := he) | (rintro e w1 he h1 g1)
  subst he
  have R1 : Hid (Cu g kb o c bs s1 w1) := h1
  have G1 : Hid (w.grownBy w1 (some g)) := g1
  have GB : Hid (g < w1.heap.size) := h1.lt
  clear h1 g1
  go_wp2
  go_loopw [3, 5] (fun v i wr => ∃ (k : Nat) (t : RS), i = .int .i64 k ∧ LsI rd N.toNat s1 k t ∧ MkI 3 1 (fun S w => Is inC) w1.heap.size (rdKL rd N.toNat s1) k v wr ∧ Cu g kb o c bs t wr ∧ w1.grownBy wr (some g)) (fun _ i _ => N.toNat - (intOf i).toNat)
  case atStart => exact ⟨0, s1, rfl, LsI.zero, MkI.zero _ _ _ _ _ _, R1.out, gb_refl _ _⟩
  case round =>
    obtain ⟨k, t, rfl, hL, hM, hR, hG⟩ := hrel
    have LI : Hid (LsI rd N.toNat s1 k t) := hL
    have MI : Hid (MkI 3 1 (fun S w => Is inC) w1.heap.size (rdKL rd N.toNat s1) k u3 wr) := hM
    have RI : Hid (Cu g kb o c bs t wr) := hR
    have GI : Hid (w1.grownBy wr (some g)) := hG
    have fin : Hid (k = N.toNat ∨ t.y ≠ 0 → (∃ y c2, u3 = .slice y (rdKL rd N.toNat s1).length c2 ∧ RwF 1 ((fun S w => Is inC) (Fresh w.heap.size wr.heap.size) wr) (Fresh w.heap.size wr.heap.size) wr y (rdKL rd N.toNat s1)) ∧ Cu g kb o c bs (rdKS rd N.toNat s1) wr ∧ w.grownBy wr (some g)) := fun q => by
      obtain ⟨e1, e2⟩ := hL.last q
      rw [e2]
      have fe : few (rdKL rd N.toNat s1).length := by
        have := rdKL_len rd N.toNat s1
        have := OK.out; show _ < _; omega
      have hM2 := hM
      rw [← e1] at hM2
      obtain ⟨y, c2, ey, hy⟩ := hM2.done (keptI _) fe
      exact ⟨⟨y, c2, ey, (hy.subK (keptI _) (up_sub' G1.out.size (Nat.le_refl _)))⟩, hR, gb_trans G1.out hG⟩
    obtain ⟨c0, c1, c2, c3⟩ := hR.at_.cs
    clear hL hM hR hG
    by_cases hlt : (k : Int) < N
    · by_cases hy : t.y = 0
      · have NX : Hid (LsI rd N.toNat s1 (k + 1) (rd t).2) := LI.out.next (by omega) hy
        have GE : Hid ((rdKL rd N.toNat s1)[k]? = some (rd t).1) := LI.out.get (by omega) hy
        have LE : Hid (k + 1 ≤ 4194304) := by have := OK.out; show _ ≤ _; omega
        have LT : Hid ((k : Int) < N) := hlt
        clear fin LI
        go_wp2_with (go_at_call 59; refine (HE.out t wr RI.out).mono ?_)
        first | (rintro e w5 ⟨he, h5, g5⟩; have he' := he) | (rintro e w5 he h5 g5)
        subst he
        have R5 : Hid (Cu g kb o c bs (rd t).2 w5) := h5
        have G5 : Hid (wr.grownBy w5 (some g)) := g5
        clear h5 g5 RI HE hy c0 c1 c2 c3
        generalize (rd t).1 = ee at *
        generalize (rd t).2 = t2 at *
        obtain ⟨vss, ehs, hvn, how, hev⟩ := MI.out
        have EHS : Hid (vss.length = k) := ehs
        have HVN : Hid (∀ v ∈ vss, v.length = 1) := hvn
        have OW : Hid (wr.ownsRow w1.heap.size 3 1 u3 k vss.flatten) := how
        have EV : Hid _ := hev
        clear ehs hvn how hev MI
        have ew : wrap64 ((k : Int) + 1) = (k : Int) + 1 := by have := LE.out; unfold wrap64; omega
        have OW5 : Hid (∀ X : Obj, (w5.alloc X).ownsRow w1.heap.size 3 1 u3 k vss.flatten) := fun X => (OW.out.kept G5.out (ob_ne OW.out.lt GB.out)).alloc X
        have NW : Hid (∀ j u, (inC ee)[j]? = some u → (w5.alloc (.cells (inC ee).toArray 3)).cell? ((⟨w5.heap.size, 0, none⟩ : Addr).add j) = some u) := fun j u h => mk_cells w5 _ _ j u h
        have BZ : Hid (∀ X : Obj, w1.heap.size ≤ (w5.alloc X).heap.size) := fun X => by have := GI.out.size; have := G5.out.size; simp; omega
        have I : Hid _ := infRlN
        go_wp2_with (at_builtin; obtain ⟨i, z, hi, hz, hs', hy, hzc⟩ := I.out; refine wpList_append_own_at _ rfl _ _ 53 rfl w1.heap.size 3 i z 1 8 Tryz.underlying53 hi hz hs' hy hzc (by decide) u3 k vss.flatten rfl (OW5.out _) ⟨w5.heap.size, 0, none⟩ 1 1 (inC ee) rfl rfl NW.out (by intro u hu; simp at hu; subst hu; rfl) (by have := LE.out; simp [maxLen]; omega) (by have := LE.out; omega) (BZ.out _) ?_; intro v' w7 q1 q2 q3 q4; have Q1 : Hid _ := q1; have Q2 : Hid _ := q2; have Q4 : Hid _ := q4; clear q1 q2 q3 q4 hi hz hs' hy hzc)
        rw [ew]
        have B5 : wr.grownBy (w5.alloc (.cells (inC ee).toArray 3)) (some g) := gb_trans G5.out (gb_alloc _ _ _)
        have hob : ∀ i, u3.ownBlock = some i → w1.heap.size ≤ i := fun i hi => (OW.out.lt i hi).1
        refine ⟨⟨k + 1, t2, rfl, NX.out, MkI.stepG (keptI _) GB.out EHS.out HVN.out EV.out OW.out.lt _ _ GE.out rfl GI.out.size B5 rfl Q2.out Q1.out Q4.out, ?_, ?_⟩, ?_⟩
        · exact (R5.out.al _).grown Q2.out (fun q => by have := hob _ q; have := GB.out; omega) (fun q => by have := hob _ q; have := R1.out.kl; omega)
        · exact gb_own (gb_trans GI.out B5) Q2.out hob
        · have := LT.out
          show N.toNat - ((k : Int) + 1).toNat < N.toNat - (k : Int).toNat
          omega
      · obtain ⟨⟨y, c2', ev, hy2⟩, hr2, hg2⟩ := fin.out (Or.inr hy)
        subst ev
        have Y2 : Hid _ := hy2
        have R2 : Hid _ := hr2
        have G2 : Hid _ := hg2
        clear hy2 hr2 hg2 fin LI MI RI GI
        go_wp2
        go_ret
        first | exact ⟨⟨y, ⟨c2', rfl⟩, Y2.out⟩, R2.out, G2.out⟩ | exact ⟨⟨y, c2', rfl, Y2.out⟩, R2.out, G2.out⟩
    · obtain ⟨⟨y, c2', ev, hy2⟩, hr2, hg2⟩ := fin.out (Or.inl (by have := LI.out.1; omega))
      subst ev
      have Y2 : Hid _ := hy2
      have R2 : Hid _ := hr2
      have G2 : Hid _ := hg2
      clear hy2 hr2 hg2 fin LI MI RI GI
      go_wp2
      go_ret
      first | exact ⟨⟨y, ⟨c2', rfl⟩, Y2.out⟩, R2.out, G2.out⟩ | exact ⟨⟨y, c2', rfl, Y2.out⟩, R2.out, G2.out⟩
set_option maxRecDepth 20000 in
set_option maxHeartbeats 8000000 in
theorem jobCG (g kb o c : Nat) (bs : List Nat) (s s1 s2 s3 s4 s5 s6 s7 : RS) (v1 : ByteArray) (v2 : Int) (v3 : Int) (v4 : Int) (v5 : List Int) (v6 : List Int) (v7 : Int) 
    (C1 : ∀ W, Cu g kb o c bs s W → Calls Tryz.prog 28 #[.pointer (some ⟨g, 0, none⟩)] W fun e w' => e = .returned (.string v1) ∧ Cu g kb o c bs s1 w' ∧ W.grownBy w' (some g))
    (C2 : ∀ W, Cu g kb o c bs s1 W → Calls Tryz.prog 59 #[.pointer (some ⟨g, 0, none⟩)] W fun e w' => e = .returned (.int .i64 v2) ∧ Cu g kb o c bs s2 w' ∧ W.grownBy w' (some g))
    (C3 : ∀ W, Cu g kb o c bs s2 W → Calls Tryz.prog 59 #[.pointer (some ⟨g, 0, none⟩)] W fun e w' => e = .returned (.int .i64 v3) ∧ Cu g kb o c bs s3 w' ∧ W.grownBy w' (some g))
    (C4 : ∀ W, Cu g kb o c bs s3 W → Calls Tryz.prog 59 #[.pointer (some ⟨g, 0, none⟩)] W fun e w' => e = .returned (.int .i64 v4) ∧ Cu g kb o c bs s4 w' ∧ W.grownBy w' (some g))
    (C5 : ∀ W, Cu g kb o c bs s4 W → Calls Tryz.prog 64 #[.pointer (some ⟨g, 0, none⟩)] W fun e w' => (∃ y k, e = .returned (.slice y v5.length k) ∧ RwF 1 ((fun S w => Is inC) (Fresh W.heap.size w'.heap.size) w') (Fresh W.heap.size w'.heap.size) w' y v5) ∧ Cu g kb o c bs s5 w' ∧ W.grownBy w' (some g))
    (C6 : ∀ W, Cu g kb o c bs s5 W → Calls Tryz.prog 64 #[.pointer (some ⟨g, 0, none⟩)] W fun e w' => (∃ y k, e = .returned (.slice y v6.length k) ∧ RwF 1 ((fun S w => Is inC) (Fresh W.heap.size w'.heap.size) w') (Fresh W.heap.size w'.heap.size) w' y v6) ∧ Cu g kb o c bs s6 w' ∧ W.grownBy w' (some g))
    (C7 : ∀ W, Cu g kb o c bs s6 W → Calls Tryz.prog 59 #[.pointer (some ⟨g, 0, none⟩)] W fun e w' => e = .returned (.int .i64 v7) ∧ Cu g kb o c bs s7 w' ∧ W.grownBy w' (some g))
    (w : World) (h : Cu g kb o c bs s w) :
    Calls Tryz.prog 32 #[.pointer (some ⟨g, 0, none⟩)] w fun e w' => (∃ y5 c5 y6 c6, e = .returned (.agg #[.string v1, .int .i64 v2, .int .i64 v3, .int .i64 v4, .slice y5 v5.length c5, .slice y6 v6.length c6, .int .i64 v7]) ∧ RwF 1 ((fun S w => Is inC) (Fresh w.heap.size w'.heap.size) w') (Fresh w.heap.size w'.heap.size) w' y5 v5 ∧ RwF 1 ((fun S w => Is inC) (Fresh w.heap.size w'.heap.size) w') (Fresh w.heap.size w'.heap.size) w' y6 v6) ∧ Cu g kb o c bs s7 w' ∧ w.grownBy w' (some g) := by
  obtain ⟨r, hr⟩ : ∃ r, w.heap.size = r := ⟨_, rfl⟩
  obtain ⟨A0, e0⟩ : ∃ A0, A0 = w.alloc (.cells #[.string ⟨#[]⟩, .int .i64 0, .int .i64 0, .int .i64 0, .slice none 0 0, .slice none 0 0, .int .i64 0] 55 (0, 0)) := ⟨_, rfl⟩
  obtain ⟨AW, eW⟩ : ∃ AW, AW = A0.alloc (.cells #[.string ⟨#[]⟩, .int .i64 0, .int .i64 0, .int .i64 0, .slice none 0 0, .slice none 0 0, .int .i64 0] 55 (0, 0)) := ⟨_, rfl⟩
  have S0 : A0.heap.size = r + 1 := by rw [e0, ← hr]; simp
  have R0 : Hid (Cu g kb o c bs s AW) := by rw [eW, e0]; exact (h.al _).al _
  have G0 : Hid (w.grownBy AW (some g)) := by rw [eW, e0]; exact gb_trans (gb_alloc _ _ _) (gb_alloc _ _ _)
  have X0 : Hid (AW.heap[r]? = some (.cells #[.string ⟨#[]⟩, .int .i64 0, .int .i64 0, .int .i64 0, .slice none 0 0, .slice none 0 0, .int .i64 0] 55 (0, 0))) := by
    rw [eW]
    refine ((gb_alloc A0 _ none).block r (by omega) (by simp)).trans ?_
    rw [e0, ← hr]
    exact heap_alloc_last _ _
  have Y0 : Hid (AW.heap[r + 1]? = some (.cells #[.string ⟨#[]⟩, .int .i64 0, .int .i64 0, .int .i64 0, .slice none 0 0, .slice none 0 0, .int .i64 0] 55 (0, 0))) := by rw [eW, ← S0]; exact heap_alloc_last _ _
  have NG : Hid (r ≠ g ∧ r + 1 ≠ g) := by have := h.lt; exact ⟨by omega, by omega⟩
  have RG : Hid (w.heap.size ≤ r) := by show _ ≤ _; omega
  have GR : Hid (g < r) := by have := h.lt; show _ < _; omega
  have NK : Hid (r ≠ kb ∧ r + 1 ≠ kb) := by have := h.kl; exact ⟨by omega, by omega⟩
  have D1 : Hid _ := C1
  have D2 : Hid _ := C2
  have D3 : Hid _ := C3
  have D4 : Hid _ := C4
  have D5 : Hid _ := C5
  have D6 : Hid _ := C6
  have D7 : Hid _ := C7
  clear h C1 C2 C3 C4 C5 C6 C7
  go_enter Tryz.func32, Tryz.ntmps32
  go_upto_region 1 with fail
  rw [← e0]
  clear e0
  go_upto_region 2 with fail
  try rw [S0]
  rw [← eW]
  clear eW S0 hr
  go_wp2_with (go_at_call 28; refine (D1.out _ R0.out).mono ?_)
  first | (rintro e w1 ⟨he, h1, g1⟩; have he' := he) | (rintro e w1 he h1 g1)
  subst he
  have x1 : w1.heap[r]? = some (.cells #[.string ⟨#[]⟩, .int .i64 0, .int .i64 0, .int .i64 0, .slice none 0 0, .slice none 0 0, .int .i64 0] 55 (0, 0)) := (g1.block r (blk_in' X0.out) (by have := NG.out.1; intro q; cases q; exact this rfl)).trans X0.out
  have a1 : w1.heap[r + 1]? = some (.cells #[.string ⟨#[]⟩, .int .i64 0, .int .i64 0, .int .i64 0, .slice none 0 0, .slice none 0 0, .int .i64 0] 55 (0, 0)) := (g1.block (r + 1) (blk_in' Y0.out) (by have := NG.out.2; intro q; cases q; exact this rfl)).trans Y0.out
  have b0 : w1.cell? ⟨r + 1, 0, none⟩ = some (.string ⟨#[]⟩) := by simp [World.cell?, a1]
  have z0 : w1.frozen? ⟨r + 1, 0, none⟩ = false := by simp [World.frozen?, a1]
  have U1 : Hid (w1.heap[r]? = some (.cells #[.string ⟨#[]⟩, .int .i64 0, .int .i64 0, .int .i64 0, .slice none 0 0, .slice none 0 0, .int .i64 0] 55 (0, 0))) := x1
  have U2 : Hid (w1.heap[r + 1]? = some (.cells #[.string ⟨#[]⟩, .int .i64 0, .int .i64 0, .int .i64 0, .slice none 0 0, .slice none 0 0, .int .i64 0] 55 (0, 0))) := a1
  have U3 : Hid (Cu g kb o c bs s1 w1) := h1
  have U4 : Hid (AW.grownBy w1 (some g)) := g1
  clear x1 a1 h1 g1 X0 Y0
  go_upto_region 3 with fail
  obtain ⟨V1, eV⟩ : ∃ V, V = (w1.setCell ⟨r + 1, 0, none⟩ (.string v1)) := ⟨_, rfl⟩
  rw [← eV]
  have R1 : Hid (Cu g kb o c bs s1 V1) := by rw [eV]; exact (Cu.setr U3.out NG.out.2 NK.out.2 _ _)
  have G1 : Hid (w.grownBy V1 (some g)) := by rw [eV]; exact (gb_setr (gb_trans G0.out U4.out) (Nat.le_succ_of_le RG.out) _ _)
  have K1 : Hid (w1.grownBy V1 (some (r + 1))) := by rw [eV]; exact gb_set _ _ _ _
  have X1 : Hid (V1.heap[r]? = some (.cells #[.string ⟨#[]⟩, .int .i64 0, .int .i64 0, .int .i64 0, .slice none 0 0, .slice none 0 0, .int .i64 0] 55 (0, 0))) := (K1.out.block r (blk_in' U1.out) (by intro q; have := Option.some.inj q; omega)).trans U1.out
  have Y1 : Hid (V1.heap[r + 1]? = some (.cells #[.string v1, .int .i64 0, .int .i64 0, .int .i64 0, .slice none 0 0, .slice none 0 0, .int .i64 0] 55 (0, 0))) := by rw [eV]; show _ = _; simp [World.setCell, Array.getElem?_modify, U2.out]
  have S1 : Hid (r + 2 ≤ V1.heap.size) := blk_in' Y1.out
  clear eV U1 U2 U3 U4 b0 z0 R0 G0 D1 K1
  go_wp2_with (go_at_call 59; refine (D2.out _ R1.out).mono ?_)
  first | (rintro e w2 ⟨he, h1, g1⟩; have he' := he) | (rintro e w2 he h1 g1)
  subst he
  have x1 : w2.heap[r]? = some (.cells #[.string ⟨#[]⟩, .int .i64 0, .int .i64 0, .int .i64 0, .slice none 0 0, .slice none 0 0, .int .i64 0] 55 (0, 0)) := (g1.block r (blk_in' X1.out) (by have := NG.out.1; intro q; cases q; exact this rfl)).trans X1.out
  have a1 : w2.heap[r + 1]? = some (.cells #[.string v1, .int .i64 0, .int .i64 0, .int .i64 0, .slice none 0 0, .slice none 0 0, .int .i64 0] 55 (0, 0)) := (g1.block (r + 1) (blk_in' Y1.out) (by have := NG.out.2; intro q; cases q; exact this rfl)).trans Y1.out
  have b1 : w2.cell? ⟨r + 1, 1, none⟩ = some (.int .i64 0) := by simp [World.cell?, a1]
  have z1 : w2.frozen? ⟨r + 1, 1, none⟩ = false := by simp [World.frozen?, a1]
  have U1 : Hid (w2.heap[r]? = some (.cells #[.string ⟨#[]⟩, .int .i64 0, .int .i64 0, .int .i64 0, .slice none 0 0, .slice none 0 0, .int .i64 0] 55 (0, 0))) := x1
  have U2 : Hid (w2.heap[r + 1]? = some (.cells #[.string v1, .int .i64 0, .int .i64 0, .int .i64 0, .slice none 0 0, .slice none 0 0, .int .i64 0] 55 (0, 0))) := a1
  have U3 : Hid (Cu g kb o c bs s2 w2) := h1
  have U4 : Hid (V1.grownBy w2 (some g)) := g1
  clear x1 a1 h1 g1 X1 Y1
  go_upto_region 4 with fail
  obtain ⟨V2, eV⟩ : ∃ V, V = (w2.setCell ⟨r + 1, 1, none⟩ (.int .i64 v2)) := ⟨_, rfl⟩
  rw [← eV]
  have R2 : Hid (Cu g kb o c bs s2 V2) := by rw [eV]; exact (Cu.setr U3.out NG.out.2 NK.out.2 _ _)
  have G2 : Hid (w.grownBy V2 (some g)) := by rw [eV]; exact (gb_setr (gb_trans G1.out U4.out) (Nat.le_succ_of_le RG.out) _ _)
  have K2 : Hid (w2.grownBy V2 (some (r + 1))) := by rw [eV]; exact gb_set _ _ _ _
  have X2 : Hid (V2.heap[r]? = some (.cells #[.string ⟨#[]⟩, .int .i64 0, .int .i64 0, .int .i64 0, .slice none 0 0, .slice none 0 0, .int .i64 0] 55 (0, 0))) := (K2.out.block r (blk_in' U1.out) (by intro q; have := Option.some.inj q; omega)).trans U1.out
  have Y2 : Hid (V2.heap[r + 1]? = some (.cells #[.string v1, .int .i64 v2, .int .i64 0, .int .i64 0, .slice none 0 0, .slice none 0 0, .int .i64 0] 55 (0, 0))) := by rw [eV]; show _ = _; simp [World.setCell, Array.getElem?_modify, U2.out]
  have S2 : Hid (r + 2 ≤ V2.heap.size) := blk_in' Y2.out
  clear eV U1 U2 U3 U4 b1 z1 R1 G1 D2 S1 K2
  go_wp2_with (go_at_call 59; refine (D3.out _ R2.out).mono ?_)
  first | (rintro e w3 ⟨he, h1, g1⟩; have he' := he) | (rintro e w3 he h1 g1)
  subst he
  have x1 : w3.heap[r]? = some (.cells #[.string ⟨#[]⟩, .int .i64 0, .int .i64 0, .int .i64 0, .slice none 0 0, .slice none 0 0, .int .i64 0] 55 (0, 0)) := (g1.block r (blk_in' X2.out) (by have := NG.out.1; intro q; cases q; exact this rfl)).trans X2.out
  have a1 : w3.heap[r + 1]? = some (.cells #[.string v1, .int .i64 v2, .int .i64 0, .int .i64 0, .slice none 0 0, .slice none 0 0, .int .i64 0] 55 (0, 0)) := (g1.block (r + 1) (blk_in' Y2.out) (by have := NG.out.2; intro q; cases q; exact this rfl)).trans Y2.out
  have b2 : w3.cell? ⟨r + 1, 2, none⟩ = some (.int .i64 0) := by simp [World.cell?, a1]
  have z2 : w3.frozen? ⟨r + 1, 2, none⟩ = false := by simp [World.frozen?, a1]
  have U1 : Hid (w3.heap[r]? = some (.cells #[.string ⟨#[]⟩, .int .i64 0, .int .i64 0, .int .i64 0, .slice none 0 0, .slice none 0 0, .int .i64 0] 55 (0, 0))) := x1
  have U2 : Hid (w3.heap[r + 1]? = some (.cells #[.string v1, .int .i64 v2, .int .i64 0, .int .i64 0, .slice none 0 0, .slice none 0 0, .int .i64 0] 55 (0, 0))) := a1
  have U3 : Hid (Cu g kb o c bs s3 w3) := h1
  have U4 : Hid (V2.grownBy w3 (some g)) := g1
  clear x1 a1 h1 g1 X2 Y2
  go_upto_region 5 with fail
  obtain ⟨V3, eV⟩ : ∃ V, V = (w3.setCell ⟨r + 1, 2, none⟩ (.int .i64 v3)) := ⟨_, rfl⟩
  rw [← eV]
  have R3 : Hid (Cu g kb o c bs s3 V3) := by rw [eV]; exact (Cu.setr U3.out NG.out.2 NK.out.2 _ _)
  have G3 : Hid (w.grownBy V3 (some g)) := by rw [eV]; exact (gb_setr (gb_trans G2.out U4.out) (Nat.le_succ_of_le RG.out) _ _)
  have K3 : Hid (w3.grownBy V3 (some (r + 1))) := by rw [eV]; exact gb_set _ _ _ _
  have X3 : Hid (V3.heap[r]? = some (.cells #[.string ⟨#[]⟩, .int .i64 0, .int .i64 0, .int .i64 0, .slice none 0 0, .slice none 0 0, .int .i64 0] 55 (0, 0))) := (K3.out.block r (blk_in' U1.out) (by intro q; have := Option.some.inj q; omega)).trans U1.out
  have Y3 : Hid (V3.heap[r + 1]? = some (.cells #[.string v1, .int .i64 v2, .int .i64 v3, .int .i64 0, .slice none 0 0, .slice none 0 0, .int .i64 0] 55 (0, 0))) := by rw [eV]; show _ = _; simp [World.setCell, Array.getElem?_modify, U2.out]
  have S3 : Hid (r + 2 ≤ V3.heap.size) := blk_in' Y3.out
  clear eV U1 U2 U3 U4 b2 z2 R2 G2 D3 S2 K3
  go_wp2_with (go_at_call 59; refine (D4.out _ R3.out).mono ?_)
  first | (rintro e w4 ⟨he, h1, g1⟩; have he' := he) | (rintro e w4 he h1 g1)
  subst he
  have x1 : w4.heap[r]? = some (.cells #[.string ⟨#[]⟩, .int .i64 0, .int .i64 0, .int .i64 0, .slice none 0 0, .slice none 0 0, .int .i64 0] 55 (0, 0)) := (g1.block r (blk_in' X3.out) (by have := NG.out.1; intro q; cases q; exact this rfl)).trans X3.out
  have a1 : w4.heap[r + 1]? = some (.cells #[.string v1, .int .i64 v2, .int .i64 v3, .int .i64 0, .slice none 0 0, .slice none 0 0, .int .i64 0] 55 (0, 0)) := (g1.block (r + 1) (blk_in' Y3.out) (by have := NG.out.2; intro q; cases q; exact this rfl)).trans Y3.out
  have b3 : w4.cell? ⟨r + 1, 3, none⟩ = some (.int .i64 0) := by simp [World.cell?, a1]
  have z3 : w4.frozen? ⟨r + 1, 3, none⟩ = false := by simp [World.frozen?, a1]
  have U1 : Hid (w4.heap[r]? = some (.cells #[.string ⟨#[]⟩, .int .i64 0, .int .i64 0, .int .i64 0, .slice none 0 0, .slice none 0 0, .int .i64 0] 55 (0, 0))) := x1
  have U2 : Hid (w4.heap[r + 1]? = some (.cells #[.string v1, .int .i64 v2, .int .i64 v3, .int .i64 0, .slice none 0 0, .slice none 0 0, .int .i64 0] 55 (0, 0))) := a1
  have U3 : Hid (Cu g kb o c bs s4 w4) := h1
  have U4 : Hid (V3.grownBy w4 (some g)) := g1
  clear x1 a1 h1 g1 X3 Y3
  go_upto_region 6 with fail
  obtain ⟨V4, eV⟩ : ∃ V, V = (w4.setCell ⟨r + 1, 3, none⟩ (.int .i64 v4)) := ⟨_, rfl⟩
  rw [← eV]
  have R4 : Hid (Cu g kb o c bs s4 V4) := by rw [eV]; exact (Cu.setr U3.out NG.out.2 NK.out.2 _ _)
  have G4 : Hid (w.grownBy V4 (some g)) := by rw [eV]; exact (gb_setr (gb_trans G3.out U4.out) (Nat.le_succ_of_le RG.out) _ _)
  have K4 : Hid (w4.grownBy V4 (some (r + 1))) := by rw [eV]; exact gb_set _ _ _ _
  have X4 : Hid (V4.heap[r]? = some (.cells #[.string ⟨#[]⟩, .int .i64 0, .int .i64 0, .int .i64 0, .slice none 0 0, .slice none 0 0, .int .i64 0] 55 (0, 0))) := (K4.out.block r (blk_in' U1.out) (by intro q; have := Option.some.inj q; omega)).trans U1.out
  have Y4 : Hid (V4.heap[r + 1]? = some (.cells #[.string v1, .int .i64 v2, .int .i64 v3, .int .i64 v4, .slice none 0 0, .slice none 0 0, .int .i64 0] 55 (0, 0))) := by rw [eV]; show _ = _; simp [World.setCell, Array.getElem?_modify, U2.out]
  have S4 : Hid (r + 2 ≤ V4.heap.size) := blk_in' Y4.out
  clear eV U1 U2 U3 U4 b3 z3 R3 G3 D4 S3 K4
  go_wp2_with (go_at_call 64; refine (D5.out _ R4.out).mono ?_)
  first | (rintro e w5 ⟨⟨y5, c5, he, q1⟩, h1, g1⟩; have he' := he) | (rintro e w5 y5 c5 he q1 h1 g1)
  subst he
  have x1 : w5.heap[r]? = some (.cells #[.string ⟨#[]⟩, .int .i64 0, .int .i64 0, .int .i64 0, .slice none 0 0, .slice none 0 0, .int .i64 0] 55 (0, 0)) := (g1.block r (blk_in' X4.out) (by have := NG.out.1; intro q; cases q; exact this rfl)).trans X4.out
  have a1 : w5.heap[r + 1]? = some (.cells #[.string v1, .int .i64 v2, .int .i64 v3, .int .i64 v4, .slice none 0 0, .slice none 0 0, .int .i64 0] 55 (0, 0)) := (g1.block (r + 1) (blk_in' Y4.out) (by have := NG.out.2; intro q; cases q; exact this rfl)).trans Y4.out
  have b4 : w5.cell? ⟨r + 1, 4, none⟩ = some (.slice none 0 0) := by simp [World.cell?, a1]
  have z4 : w5.frozen? ⟨r + 1, 4, none⟩ = false := by simp [World.frozen?, a1]
  have U1 : Hid (w5.heap[r]? = some (.cells #[.string ⟨#[]⟩, .int .i64 0, .int .i64 0, .int .i64 0, .slice none 0 0, .slice none 0 0, .int .i64 0] 55 (0, 0))) := x1
  have U2 : Hid (w5.heap[r + 1]? = some (.cells #[.string v1, .int .i64 v2, .int .i64 v3, .int .i64 v4, .slice none 0 0, .slice none 0 0, .int .i64 0] 55 (0, 0))) := a1
  have U3 : Hid (Cu g kb o c bs s5 w5) := h1
  have U4 : Hid (V4.grownBy w5 (some g)) := g1
  clear x1 a1 h1 g1 X4 Y4
  have U5 : Hid _ := q1
  clear q1
  go_upto_region 7 with fail
  obtain ⟨V5, eV⟩ : ∃ V, V = (w5.setCell ⟨r + 1, 4, none⟩ (.slice y5 v5.length c5)) := ⟨_, rfl⟩
  rw [← eV]
  have R5 : Hid (Cu g kb o c bs s5 V5) := by rw [eV]; exact (Cu.setr U3.out NG.out.2 NK.out.2 _ _)
  have G5 : Hid (w.grownBy V5 (some g)) := by rw [eV]; exact (gb_setr (gb_trans G4.out U4.out) (Nat.le_succ_of_le RG.out) _ _)
  have K5 : Hid (w5.grownBy V5 (some (r + 1))) := by rw [eV]; exact gb_set _ _ _ _
  have X5 : Hid (V5.heap[r]? = some (.cells #[.string ⟨#[]⟩, .int .i64 0, .int .i64 0, .int .i64 0, .slice none 0 0, .slice none 0 0, .int .i64 0] 55 (0, 0))) := (K5.out.block r (blk_in' U1.out) (by intro q; have := Option.some.inj q; omega)).trans U1.out
  have Y5 : Hid (V5.heap[r + 1]? = some (.cells #[.string v1, .int .i64 v2, .int .i64 v3, .int .i64 v4, .slice y5 v5.length c5, .slice none 0 0, .int .i64 0] 55 (0, 0))) := by rw [eV]; show _ = _; simp [World.setCell, Array.getElem?_modify, U2.out]
  have Q5_5 : Hid (RwF 1 ((fun S w => Is inC) (Fresh (r + 2) V5.heap.size) V5) (Fresh (r + 2) V5.heap.size) V5 y5 v5) := rw_keep (keptI _) (RwF.subK (keptI _) (up_sub' S4.out (Nat.le_refl _)) U5.out) K5.out (by omega)
  clear U5
  have S5 : Hid (r + 2 ≤ V5.heap.size) := blk_in' Y5.out
  clear eV U1 U2 U3 U4 b4 z4 R4 G4 D5 S4 K5
  go_wp2_with (go_at_call 64; refine (D6.out _ R5.out).mono ?_)
  first | (rintro e w6 ⟨⟨y6, c6, he, q1⟩, h1, g1⟩; have he' := he) | (rintro e w6 y6 c6 he q1 h1 g1)
  subst he
  have x1 : w6.heap[r]? = some (.cells #[.string ⟨#[]⟩, .int .i64 0, .int .i64 0, .int .i64 0, .slice none 0 0, .slice none 0 0, .int .i64 0] 55 (0, 0)) := (g1.block r (blk_in' X5.out) (by have := NG.out.1; intro q; cases q; exact this rfl)).trans X5.out
  have a1 : w6.heap[r + 1]? = some (.cells #[.string v1, .int .i64 v2, .int .i64 v3, .int .i64 v4, .slice y5 v5.length c5, .slice none 0 0, .int .i64 0] 55 (0, 0)) := (g1.block (r + 1) (blk_in' Y5.out) (by have := NG.out.2; intro q; cases q; exact this rfl)).trans Y5.out
  have b5 : w6.cell? ⟨r + 1, 5, none⟩ = some (.slice none 0 0) := by simp [World.cell?, a1]
  have z5 : w6.frozen? ⟨r + 1, 5, none⟩ = false := by simp [World.frozen?, a1]
  have U1 : Hid (w6.heap[r]? = some (.cells #[.string ⟨#[]⟩, .int .i64 0, .int .i64 0, .int .i64 0, .slice none 0 0, .slice none 0 0, .int .i64 0] 55 (0, 0))) := x1
  have U2 : Hid (w6.heap[r + 1]? = some (.cells #[.string v1, .int .i64 v2, .int .i64 v3, .int .i64 v4, .slice y5 v5.length c5, .slice none 0 0, .int .i64 0] 55 (0, 0))) := a1
  have U3 : Hid (Cu g kb o c bs s6 w6) := h1
  have U4 : Hid (V5.grownBy w6 (some g)) := g1
  clear x1 a1 h1 g1 X5 Y5
  have U5 : Hid _ := q1
  clear q1
  go_upto_region 8 with fail
  obtain ⟨V6, eV⟩ : ∃ V, V = (w6.setCell ⟨r + 1, 5, none⟩ (.slice y6 v6.length c6)) := ⟨_, rfl⟩
  rw [← eV]
  have R6 : Hid (Cu g kb o c bs s6 V6) := by rw [eV]; exact (Cu.setr U3.out NG.out.2 NK.out.2 _ _)
  have G6 : Hid (w.grownBy V6 (some g)) := by rw [eV]; exact (gb_setr (gb_trans G5.out U4.out) (Nat.le_succ_of_le RG.out) _ _)
  have K6 : Hid (w6.grownBy V6 (some (r + 1))) := by rw [eV]; exact gb_set _ _ _ _
  have X6 : Hid (V6.heap[r]? = some (.cells #[.string ⟨#[]⟩, .int .i64 0, .int .i64 0, .int .i64 0, .slice none 0 0, .slice none 0 0, .int .i64 0] 55 (0, 0))) := (K6.out.block r (blk_in' U1.out) (by intro q; have := Option.some.inj q; omega)).trans U1.out
  have Y6 : Hid (V6.heap[r + 1]? = some (.cells #[.string v1, .int .i64 v2, .int .i64 v3, .int .i64 v4, .slice y5 v5.length c5, .slice y6 v6.length c6, .int .i64 0] 55 (0, 0))) := by rw [eV]; show _ = _; simp [World.setCell, Array.getElem?_modify, U2.out]
  have Q5_6 : Hid (RwF 1 ((fun S w => Is inC) (Fresh (r + 2) V6.heap.size) V6) (Fresh (r + 2) V6.heap.size) V6 y5 v5) := rw_keep (keptI _) (rw_keep (keptI _) Q5_5.out U4.out (by have := GR.out; omega)) K6.out (by omega)
  clear Q5_5
  have Q6_6 : Hid (RwF 1 ((fun S w => Is inC) (Fresh (r + 2) V6.heap.size) V6) (Fresh (r + 2) V6.heap.size) V6 y6 v6) := rw_keep (keptI _) (RwF.subK (keptI _) (up_sub' S5.out (Nat.le_refl _)) U5.out) K6.out (by omega)
  clear U5
  have S6 : Hid (r + 2 ≤ V6.heap.size) := blk_in' Y6.out
  clear eV U1 U2 U3 U4 b5 z5 R5 G5 D6 S5 K6
  go_wp2_with (go_at_call 59; refine (D7.out _ R6.out).mono ?_)
  first | (rintro e w7 ⟨he, h1, g1⟩; have he' := he) | (rintro e w7 he h1 g1)
  subst he
  have x1 : w7.heap[r]? = some (.cells #[.string ⟨#[]⟩, .int .i64 0, .int .i64 0, .int .i64 0, .slice none 0 0, .slice none 0 0, .int .i64 0] 55 (0, 0)) := (g1.block r (blk_in' X6.out) (by have := NG.out.1; intro q; cases q; exact this rfl)).trans X6.out
  have a1 : w7.heap[r + 1]? = some (.cells #[.string v1, .int .i64 v2, .int .i64 v3, .int .i64 v4, .slice y5 v5.length c5, .slice y6 v6.length c6, .int .i64 0] 55 (0, 0)) := (g1.block (r + 1) (blk_in' Y6.out) (by have := NG.out.2; intro q; cases q; exact this rfl)).trans Y6.out
  have b6 : w7.cell? ⟨r + 1, 6, none⟩ = some (.int .i64 0) := by simp [World.cell?, a1]
  have z6 : w7.frozen? ⟨r + 1, 6, none⟩ = false := by simp [World.frozen?, a1]
  have U1 : Hid (w7.heap[r]? = some (.cells #[.string ⟨#[]⟩, .int .i64 0, .int .i64 0, .int .i64 0, .slice none 0 0, .slice none 0 0, .int .i64 0] 55 (0, 0))) := x1
  have U2 : Hid (w7.heap[r + 1]? = some (.cells #[.string v1, .int .i64 v2, .int .i64 v3, .int .i64 v4, .slice y5 v5.length c5, .slice y6 v6.length c6, .int .i64 0] 55 (0, 0))) := a1
  have U3 : Hid (Cu g kb o c bs s7 w7) := h1
  have U4 : Hid (V6.grownBy w7 (some g)) := g1
  clear x1 a1 h1 g1 X6 Y6
  go_upto_region 9 with fail
  obtain ⟨V7, eV⟩ : ∃ V, V = (w7.setCell ⟨r + 1, 6, none⟩ (.int .i64 v7)) := ⟨_, rfl⟩
  rw [← eV]
  have R7 : Hid (Cu g kb o c bs s7 V7) := by rw [eV]; exact (Cu.setr U3.out NG.out.2 NK.out.2 _ _)
  have G7 : Hid (w.grownBy V7 (some g)) := by rw [eV]; exact (gb_setr (gb_trans G6.out U4.out) (Nat.le_succ_of_le RG.out) _ _)
  have K7 : Hid (w7.grownBy V7 (some (r + 1))) := by rw [eV]; exact gb_set _ _ _ _
  have X7 : Hid (V7.heap[r]? = some (.cells #[.string ⟨#[]⟩, .int .i64 0, .int .i64 0, .int .i64 0, .slice none 0 0, .slice none 0 0, .int .i64 0] 55 (0, 0))) := (K7.out.block r (blk_in' U1.out) (by intro q; have := Option.some.inj q; omega)).trans U1.out
  have Y7 : Hid (V7.heap[r + 1]? = some (.cells #[.string v1, .int .i64 v2, .int .i64 v3, .int .i64 v4, .slice y5 v5.length c5, .slice y6 v6.length c6, .int .i64 v7] 55 (0, 0))) := by rw [eV]; show _ = _; simp [World.setCell, Array.getElem?_modify, U2.out]
  have Q5_7 : Hid (RwF 1 ((fun S w => Is inC) (Fresh (r + 2) V7.heap.size) V7) (Fresh (r + 2) V7.heap.size) V7 y5 v5) := rw_keep (keptI _) (rw_keep (keptI _) Q5_6.out U4.out (by have := GR.out; omega)) K7.out (by omega)
  clear Q5_6
  have Q6_7 : Hid (RwF 1 ((fun S w => Is inC) (Fresh (r + 2) V7.heap.size) V7) (Fresh (r + 2) V7.heap.size) V7 y6 v6) := rw_keep (keptI _) (rw_keep (keptI _) Q6_6.out U4.out (by have := GR.out; omega)) K7.out (by omega)
  clear Q6_6
  have S7 : Hid (r + 2 ≤ V7.heap.size) := blk_in' Y7.out
  clear eV U1 U2 U3 U4 b6 z6 R6 G6 D7 S6 K7
  have b0 : V7.cell? ⟨r + 1, 0, none⟩ = some (.string v1) := by simp [World.cell?, Y7.out]
  have b1 : V7.cell? ⟨r + 1, 1, none⟩ = some (.int .i64 v2) := by simp [World.cell?, Y7.out]
  have b2 : V7.cell? ⟨r + 1, 2, none⟩ = some (.int .i64 v3) := by simp [World.cell?, Y7.out]
  have b3 : V7.cell? ⟨r + 1, 3, none⟩ = some (.int .i64 v4) := by simp [World.cell?, Y7.out]
  have b4 : V7.cell? ⟨r + 1, 4, none⟩ = some (.slice y5 v5.length c5) := by simp [World.cell?, Y7.out]
  have b5 : V7.cell? ⟨r + 1, 5, none⟩ = some (.slice y6 v6.length c6) := by simp [World.cell?, Y7.out]
  have b6 : V7.cell? ⟨r + 1, 6, none⟩ = some (.int .i64 v7) := by simp [World.cell?, Y7.out]
  go_wp2_with (refine wpList_store_row rfl 55 _ _ rfl r _ rfl rfl _ _ X7.out (show (Tryz.prog.info? 55).map (·.size) = some 7 by kernel_rfl) rfl (by kernel_rfl) ?_)
  have hz := setRow_heap V7 r _ #[.string v1, .int .i64 v2, .int .i64 v3, .int .i64 v4, .slice y5 v5.length c5, .slice y6 v6.length c6, .int .i64 v7] _ _ X7.out
  refine bodyPost_ret (v := .agg #[.string v1, .int .i64 v2, .int .i64 v3, .int .i64 v4, .slice y5 v5.length c5, .slice y6 v6.length c6, .int .i64 v7]) (results_cell_row Tryz.results32 _ _ r _ _ (0, 0) _ (by first | rfl | simp [Act.put]) hz Tryz.underlying55 rfl (show (Tryz.prog.info? 55).map (·.size) = some 7 by kernel_rfl)) rfl ?_
  first | exact ⟨⟨y5, c5, y6, c6, rfl, rw_row' (keptI _) Q5_7.out RG.out, rw_row' (keptI _) Q6_7.out RG.out⟩, R7.out.row NG.out.1 NK.out.1 _, gb_row G7.out RG.out _⟩ | exact ⟨⟨y5, c5, y6, ⟨c6, rfl⟩, rw_row' (keptI _) Q5_7.out RG.out, rw_row' (keptI _) Q6_7.out RG.out⟩, R7.out.row NG.out.1 NK.out.1 _, gb_row G7.out RG.out _⟩
end Go.Proofs.YtahgnmbkobiclaaGreat
namespace Go.Proofs.YtahgnmbkobiclaaGreat
set_option linter.unusedVariables false
open Go.RowKit
/-- Two blocks aside, all that was there stays. -/
structure Kp (g r : Nat) (a b : World) : Prop where
  os : b.os = a.os
  tape : b.tape = a.tape
  output : b.output = a.output
  size : a.heap.size ≤ b.heap.size
  block : ∀ k, k < a.heap.size → k ≠ g → k ≠ r → b.heap[k]? = a.heap[k]?
theorem Kp.refl (g r : Nat) (a : World) : Kp g r a a := ⟨rfl, rfl, rfl, Nat.le_refl _, fun _ _ _ _ => rfl⟩
theorem Kp.trans {g r : Nat} {a b c : World} (h : Kp g r a b) (k : Kp g r b c) : Kp g r a c :=
  ⟨k.os.trans h.os, k.tape.trans h.tape, k.output.trans h.output, Nat.le_trans h.size k.size, fun i hi h1 h2 => (k.block i (Nat.lt_of_lt_of_le hi h.size) h1 h2).trans (h.block i hi h1 h2)⟩
theorem Kp.of {g r : Nat} {a b : World} (h : a.grownBy b (some g)) : Kp g r a b := ⟨h.os, h.tape, h.output, h.size, fun k hk h1 _ => h.block k hk (fun e => h1 (Option.some.inj e))⟩
theorem Kp.own {g r : Nat} {a b : World} {x : Option Nat} (h : a.grownBy b x) {c : World} (hx : ∀ i, x = some i → c.heap.size ≤ i) (k : Kp g r c a) : Kp g r c b :=
  ⟨h.os.trans k.os, h.tape.trans k.tape, h.output.trans k.output, Nat.le_trans k.size h.size, fun i hi h1 h2 => (h.block i (Nat.lt_of_lt_of_le hi k.size) (fun e => by have := hx i e.symm; omega)).trans (k.block i hi h1 h2)⟩
theorem Kp.set {g r : Nat} {a b : World} (h : Kp g r a b) (j : Nat) (v : Value) : Kp g r a (b.setCell ⟨r, j, none⟩ v) :=
  ⟨h.os, h.tape, h.output, by simpa using h.size, fun k hk h1 h2 => (Below.heap_setCell _ _ _ _ (by show k ≠ r; exact h2)).trans (h.block k hk h1 h2)⟩
theorem Kp.gb {g r : Nat} {w a b : World} (h : w.grownBy a (some g)) (k : Kp g r a b) (hr : w.heap.size ≤ r) : w.grownBy b (some g) :=
  ⟨k.os.trans h.os, k.tape.trans h.tape, k.output.trans h.output, Nat.le_trans h.size k.size, fun i hi hn => (k.block i (Nat.lt_of_lt_of_le hi h.size) (fun e => hn (by rw [e])) (by omega)).trans (h.block i hi hn)⟩
theorem Kp.drew {g r : Nat} {a b : World} (h : Kp g r a b) : Kp g r a b.drew := ⟨h.os, h.tape, h.output, h.size, h.block⟩
theorem Cu.drew {g kb o c : Nat} {bs : List Nat} {s : RS} {w : World} (h : Cu g kb o c bs s w) : Cu g kb o c bs s w.drew := ⟨h.at_, h.by_, h.le, h.n4, h.nc, h.ne, h.kl, h.b8⟩
theorem rw_kp {α : Type} {n : Nat} {P : (Nat → Prop) → World → α → List Value → Prop} (K : Kept P) {b g r : Nat} {w w' : World} {x : Option Addr} {l : List α} (h : RwF n (P (Fresh b w.heap.size) w) (Fresh b w.heap.size) w x l) (hk : Kp g r w w') (hg : g < b) (hr : r < b) : RwF n (P (Fresh b w'.heap.size) w') (Fresh b w'.heap.size) w' x l :=
  RwF.subK K (up_sub' (Nat.le_refl _) hk.size) (h.frK K (fun q hq => World.cell?_of_block (hk.block _ hq.2 (by have := hq.1; omega) (by have := hq.1; omega))))
theorem MkI.setc {α : Type} {T : TypeId} {n base k r j : Nat} {P : (Nat → Prop) → World → α → List Value → Prop} {l : List α} {out v : Value} {w : World} (K : Kept P) (h : MkI T n P base l k out w) (hr : r < base) : MkI T n P base l k out (w.setCell ⟨r, j, none⟩ v) := by
  obtain ⟨vss, h1, h2, h3, h4⟩ := h
  refine ⟨vss, h1, h2, ownsRow_setCell_below h3 hr _, fun i vs e hv hl => ?_⟩
  have q := h4 i vs e hv hl
  rw [show (w.setCell ⟨r, j, none⟩ v).heap.size = w.heap.size by simp]
  exact K.fr q (fun a ha => World.cell?_of_block (Below.heap_setCell _ _ _ _ (by show a.block ≠ r; have := ha.1.1; omega)))
theorem MkI.drew {α : Type} {T : TypeId} {n base k : Nat} {P : (Nat → Prop) → World → α → List Value → Prop} {l : List α} {out : Value} {w : World} (K : Kept P) (h : MkI T n P base l k out w) : MkI T n P base l k out w.drew := by
  obtain ⟨vss, h1, h2, h3, h4⟩ := h
  exact ⟨vss, h1, h2, h3, fun i vs e hv hl => K.fr (h4 i vs e hv hl) (fun a ha => rfl)⟩
theorem own_form {w : World} {base : Nat} {e : TypeId} {size : Nat} {x : Value} {n : Nat} {xs : List Value} (h : w.ownsRow base e size x n xs) : ∃ y c, x = .slice y n c := by
  rcases h.2 with ⟨h1, h2⟩ | ⟨g, cap, cur, h1, _⟩
  · subst h2; exact ⟨none, 0, h1⟩
  · exact ⟨_, _, h1⟩
/-- An append to a row of one's own, as one step. -/
theorem wp_app_at {P : Program} {o : Oper} {a : Act} {w : World} {Kt : Act → World → Prop} {Q : Exit → Act → World → Prop} (s x : Operand) (t : TypeId)
    (ho : o.op = .call { callee := .builtin .append, args := #[s, x], argTypes := #[t, t] })
    (base : Nat) (e : TypeId) (i : TypeInfo) (z : Value) (size bytes : Nat) (ht : P.underlying t = some (.slice e)) (hi : P.info? e = some i) (hz : i.zero = some z)
    (hsize : i.size = size) (hby : i.bytes = bytes) (hzs : z.cells.size = size) (hsz : 0 < size)
    (v : Value) (n : Nat) (xs : List Value) (hs : a.eval s = v) (hown : w.ownsRow base e size v n xs)
    (ad : Addr) (m c : Nat) (news : List Value) (hx : a.eval x = .slice (some ad) m c) (hl : news.length = m * size) (hnews : ∀ j u, news[j]? = some u → w.cell? (ad.add j) = some u) (h1 : ∀ u ∈ news, u.oneCell' = true)
    (h63 : n + m ≤ maxLen) (hbytes : (n + m) * bytes ≤ 140737488355328) (hbase : base ≤ w.heap.size)
    (h : ∀ v' w', w'.ownsRow base e size v' (n + m) (xs ++ news) → w.grownBy w' v.ownBlock → (v' = .slice none 0 0 ↔ v = .slice none 0 0 ∧ m = 0) → (v'.ownBlock = v.ownBlock ∨ v'.ownBlock = some w.heap.size) → Kt (a.put o.dst v') w') :
    o.wp P a w Kt Q := by
  obtain ⟨v', w', hr, h2, h3, h4, h5⟩ := run_append_own_at (P := P) w base t o.type e i z size bytes ht hi hz hsize hby hzs hsz v n xs hown ad m c news hl hnews h1 h63 hbytes hbase
  unfold Oper.wp execOp
  simp only [ho, resolve, invoke, builtin, Sem.run_bind, Sem.run_pure, Result.andThen_ok, List.map_toArray, List.map_cons, List.map_nil, hs, hx, hr]
  exact h v' w' h2 h3 h4 h5
end Go.Proofs.YtahgnmbkobiclaaGreat
namespace Go.Proofs.YtahgnmbkobiclaaGreat
set_option linter.unusedVariables false
open Go.RowKit
set_option maxHeartbeats 1000000 in
theorem inR_of (n b : Int) (w : World) : Calls Tryz.prog 71 #[.int .i64 n, .int .i64 b] w fun e w' => e = .returned (.bool (inB 0 b n)) ∧ w' = w := by
  unfold inB
  by_cases c : 0 ≤ n
  · by_cases d : n ≤ b
    · rw [decide_eq_true c, decide_eq_true d]
      go_enter Tryz.func71, Tryz.ntmps71
      go_wp2
      go_ret
      exact ⟨rfl, rfl⟩
    · rw [decide_eq_true c, decide_eq_false d]
      go_enter Tryz.func71, Tryz.ntmps71
      go_wp2
      go_ret
      exact ⟨rfl, rfl⟩
  · rw [decide_eq_false c]
    go_enter Tryz.func71, Tryz.ntmps71
    go_wp2
    go_ret
    exact ⟨rfl, rfl⟩
set_option maxHeartbeats 2000000 in
theorem widthR4_of (k : Int) (h : 1 ≤ k ∧ k ≤ 20) (w : World) : Calls Tryz.prog 70 #[.int .u8 k] w fun e w' => e = .returned (.int .i64 (wdK k)) ∧ w' = w := by
  rcases kinds20 k h with rfl | rfl | rfl | rfl | rfl | rfl | rfl | rfl | rfl | rfl | rfl | rfl | rfl | rfl | rfl | rfl | rfl | rfl | rfl | rfl
  all_goals
    go_enter Tryz.func70, Tryz.ntmps70
    go_wp2
    go_ret
    exact ⟨rfl, rfl⟩
set_option maxHeartbeats 1000000 in
theorem typedR_of (c : CeR) (w : World) : Calls Tryz.prog 68 #[CeV c] w fun e w' => e = .returned (.agg #[.int .u8 c.kd, .bool c.sb, .int .i64 c.lo, .int .i64 c.hi, .int .i64 c.mx, .bool false, .int .i64 0, .int .i64 0, .string ⟨#[]⟩]) ∧ Below w.heap.size w w' := by
  go_enter Tryz.func68, Tryz.ntmps68
  go_wp2
  exact bodyPost_ret (v := .agg #[.int .u8 c.kd, .bool c.sb, .int .i64 c.lo, .int .i64 c.hi, .int .i64 c.mx, .bool false, .int .i64 0, .int .i64 0, .string ⟨#[]⟩]) (by simp [results, Tryz.results68, go_sem]) rfl ⟨rfl, by go_grown⟩
set_option maxHeartbeats 2000000 in
theorem nearR_of (lo hi : Int) (h : lo ≤ hi) (h1 : -9223372036854775808 ≤ lo ∧ lo < 9223372036854775808) (h2 : -9223372036854775808 ≤ hi ∧ hi < 9223372036854775808) (w : World) : Calls Tryz.prog 113 #[.int .i64 lo, .int .i64 hi] w fun e w' => e = .returned (.bool (decide (hi - lo < 256))) ∧ w' = w := by
  by_cases a : lo < 0 ∧ 0 ≤ hi
  · obtain ⟨a1, a2⟩ := a
    by_cases b : -256 < lo
    · by_cases c : hi < 256
      · have e : wrap64 (hi - lo) = hi - lo := by unfold wrap64; omega
        by_cases d : hi - lo < 256
        · rw [decide_eq_true d]
          go_enter Tryz.func113, Tryz.ntmps113
          go_wp2
          go_ret
          exact ⟨rfl, rfl⟩
        · rw [decide_eq_false d]
          go_enter Tryz.func113, Tryz.ntmps113
          go_wp2
          go_ret
          exact ⟨rfl, rfl⟩
      · have d : ¬ hi - lo < 256 := by omega
        rw [decide_eq_false d]
        go_enter Tryz.func113, Tryz.ntmps113
        go_wp2
        go_ret
        exact ⟨rfl, rfl⟩
    · have d : ¬ hi - lo < 256 := by omega
      rw [decide_eq_false d]
      go_enter Tryz.func113, Tryz.ntmps113
      go_wp2
      go_ret
      exact ⟨rfl, rfl⟩
  · have e : wrap64 (hi - lo) = hi - lo := by unfold wrap64; omega
    by_cases b : lo < 0
    · have c : ¬ 0 ≤ hi := fun q => a ⟨b, q⟩
      by_cases d : hi - lo < 256
      · rw [decide_eq_true d]
        clear a
        go_enter Tryz.func113, Tryz.ntmps113
        go_wp2
        go_ret
        exact ⟨rfl, rfl⟩
      · rw [decide_eq_false d]
        clear a
        go_enter Tryz.func113, Tryz.ntmps113
        go_wp2
        go_ret
        exact ⟨rfl, rfl⟩
    · by_cases d : hi - lo < 256
      · rw [decide_eq_true d]
        clear a
        go_enter Tryz.func113, Tryz.ntmps113
        go_wp2
        go_ret
        exact ⟨rfl, rfl⟩
      · rw [decide_eq_false d]
        clear a
        go_enter Tryz.func113, Tryz.ntmps113
        go_wp2
        go_ret
        exact ⟨rfl, rfl⟩
end Go.Proofs.YtahgnmbkobiclaaGreat
