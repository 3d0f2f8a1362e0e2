/- The document's image: may a code be, its instructions aside; no statement of the seat is proved here. -/
import Derived.Test.YtdcjngakmkgbmaaGreatKoA9
import Derived.Test.YtdcjngakmkgbmaaGreatCkIK
import Derived.Deep.DeepCutAuto
namespace Go.Proofs.YtdcjngakmkgbmaaGreat
set_option linter.unusedVariables false
open Go.RowKit
/-- May a code's base be? -/
def baB (f : FlR) (n : Int) : Bool := decide (f.ba = -1) || (decide (f.wh = 1) && ftB f.ba f.ce n)
def laB (o : OpR) : Bool := decide (o.cd = 16 ∨ o.cd = 20 ∨ o.cd = 21)
theorem co_all (f : FlR) (n : Int) : coB f n = (inB 1 3 f.wh && inB 0 4096 f.ce && inB 0 8 f.rg && inB 0 1024 f.sl && baB f n && enB f && lsB f) := by
  unfold coB stB baB
  cases inB 1 3 f.wh <;> cases inB 0 4096 f.ce <;> cases inB 0 8 f.rg <;> cases inB 0 1024 f.sl <;> simp
set_option maxRecDepth 20000 in
set_option maxHeartbeats 8000000 in
theorem codeR_of (m : ImR) (x1 x2 x3 : Option Addr) (p1 p2 p3 i : Nat) (s : FlR) (w : World) {S : Nat → Prop} (hS : ∀ b, S b → b < w.heap.size) (ha : RwF 8 (FlP S w) S w x2 m.fs) (ho : ∀ f ∈ m.fs, FlOk f) (hn : m.cs.length ≤ 1048576) (hi : m.fs[i]? = some s) :
    Calls Tryz.prog 39 #[.agg #[.string m.nm, .slice x1 m.cs.length p1, .slice x2 m.fs.length p2, .slice x3 m.js.length p3], .int .i64 i] w fun e w' => e = .returned (.bool (coB s m.cs.length)) ∧ Below w.heap.size w w' := by
  have hl := (List.getElem?_eq_some_iff.1 hi).1
  have OK : Hid (FlOk s) := ho s (List.mem_of_getElem? hi)
  have HS : Hid (∀ b, S b → b < w.heap.size) := hS
  have HN : Hid (m.cs.length ≤ 1048576) := hn
  obtain ⟨a, rfl⟩ := ha.some (by omega)
  obtain ⟨s', sv, se, sb, ⟨sx, sc, sy, sd, rfl, sq⟩, sk⟩ := ha.el i hl
  obtain rfl : s = s' := by rw [hi] at se; cases se; rfl
  rw [co_all]
  have QS : Hid (FlQ S w s sx sy) := sq
  have e0 := sk.c0
  have e1 := sk.cp 0 _ rfl
  have e2 := sk.cp 1 _ rfl
  have e3 := sk.cp 2 _ rfl
  have e4 := sk.cp 3 _ rfl
  have e5 := sk.cp 4 _ rfl
  have e6 := sk.cp 5 _ rfl
  have e7 := sk.cp 6 _ rfl
  have E : Hid (∀ X : Obj, (w.alloc X).cell? (a.add (i * 8)) = some (.string s.nm) ∧ (w.alloc X).cell? ⟨(a.add (i * 8)).block, (a.add (i * 8)).off + (0 + 1), none⟩ = some (.int .i64 s.wh) ∧ (w.alloc X).cell? ⟨(a.add (i * 8)).block, (a.add (i * 8)).off + (1 + 1), none⟩ = some (.int .i64 s.ce) ∧ (w.alloc X).cell? ⟨(a.add (i * 8)).block, (a.add (i * 8)).off + (2 + 1), none⟩ = some (.int .i64 s.ba) ∧ (w.alloc X).cell? ⟨(a.add (i * 8)).block, (a.add (i * 8)).off + (3 + 1), none⟩ = some (.int .i64 s.rg) ∧ (w.alloc X).cell? ⟨(a.add (i * 8)).block, (a.add (i * 8)).off + (4 + 1), none⟩ = some (.int .i64 s.sl) ∧ (w.alloc X).cell? ⟨(a.add (i * 8)).block, (a.add (i * 8)).off + (5 + 1), none⟩ = some (.slice sx s.os.length sc) ∧ (w.alloc X).cell? ⟨(a.add (i * 8)).block, (a.add (i * 8)).off + (6 + 1), none⟩ = some (.slice sy s.ls.length sd)) := fun X => by
    have B := (Below.refl w.heap.size w).alloc (Nat.le_refl _) X
    have z := block_lt_of_cell e0
    exact ⟨(B.cell z).trans e0, (B.cell (p := ⟨(a.add (i * 8)).block, _, none⟩) z).trans e1, (B.cell (p := ⟨(a.add (i * 8)).block, _, none⟩) z).trans e2, (B.cell (p := ⟨(a.add (i * 8)).block, _, none⟩) z).trans e3, (B.cell (p := ⟨(a.add (i * 8)).block, _, none⟩) z).trans e4, (B.cell (p := ⟨(a.add (i * 8)).block, _, none⟩) z).trans e5, (B.cell (p := ⟨(a.add (i * 8)).block, _, none⟩) z).trans e6, (B.cell (p := ⟨(a.add (i * 8)).block, _, none⟩) z).trans e7⟩
  have il : (i : Int) < m.fs.length := by omega
  have za := block_lt_of_cell e0
  clear e0 e1 e2 e3 e4 e5 e6 e7 ha hS ho hn sk sq se sb
  clear hi
  have I1 : Hid (∀ W, Calls Tryz.prog 83 #[.int .i64 s.ce, .int .i64 4096] W fun e w' => e = .returned (.bool (inB 0 4096 s.ce)) ∧ w' = W) := fun W => inR_of _ _ W
  have I2 : Hid (∀ W, Calls Tryz.prog 83 #[.int .i64 s.rg, .int .i64 8] W fun e w' => e = .returned (.bool (inB 0 8 s.rg)) ∧ w' = W) := fun W => inR_of _ _ W
  have I3 : Hid (∀ W, Calls Tryz.prog 83 #[.int .i64 s.sl, .int .i64 1024] W fun e w' => e = .returned (.bool (inB 0 1024 s.sl)) ∧ w' = W) := fun W => inR_of _ _ W
  have CE : Hid (inB 0 4096 s.ce = true → 0 ≤ s.ce ∧ s.ce ≤ 4096) := fun h => inB_t h
  generalize hv : (inB 1 3 s.wh && inB 0 4096 s.ce && inB 0 8 s.rg && inB 0 1024 s.sl && baB s m.cs.length && enB s && lsB s) = VV
  have HV : Hid _ := hv
  clear hv
  generalize inB 0 4096 s.ce = r1 at *
  generalize inB 0 8 s.rg = r2 at *
  generalize inB 0 1024 s.sl = r3 at *
  obtain ⟨AM, eM⟩ : ∃ AM, AM = w.alloc (.cells #[.string m.nm, .slice x1 m.cs.length p1, .slice (some a) m.fs.length p2, .slice x3 m.js.length p3] 26 (0, 0)) := ⟨_, rfl⟩
  have MX : Hid (AM.heap[w.heap.size]? = some (.cells #[.string m.nm, .slice x1 m.cs.length p1, .slice (some a) m.fs.length p2, .slice x3 m.js.length p3] 26 (0, 0))) := by rw [eM]; exact heap_alloc_last _ _
  have MS : AM.heap.size = w.heap.size + 1 := by rw [eM]; simp
  obtain ⟨e0, e1, e2, e3, e4, e5, e6, e7⟩ := E.out (.cells #[.string m.nm, .slice x1 m.cs.length p1, .slice (some a) m.fs.length p2, .slice x3 m.js.length p3] 26 (0, 0))
  rw [← eM] at e0 e1 e2 e3 e4 e5 e6 e7
  have m2 : AM.cell? ⟨w.heap.size, 2, none⟩ = some (.slice (some a) m.fs.length p2) := by simp [World.cell?, MX.out]
  have zb := block_lt_of_cell e0
  obtain ⟨AR, eR⟩ : ∃ AR, AR = AM.alloc (.cells #[.string s.nm, .int .i64 s.wh, .int .i64 s.ce, .int .i64 s.ba, .int .i64 s.rg, .int .i64 s.sl, .slice sx s.os.length sc, .slice sy s.ls.length sd] 44 (0, 0)) := ⟨_, rfl⟩
  have AX : Hid (AR.heap[w.heap.size + 1]? = some (.cells #[.string s.nm, .int .i64 s.wh, .int .i64 s.ce, .int .i64 s.ba, .int .i64 s.rg, .int .i64 s.sl, .slice sx s.os.length sc, .slice sy s.ls.length sd] 44 (0, 0))) := by rw [eR, ← MS]; exact heap_alloc_last _ _
  have AY : Hid (AR.heap[w.heap.size]? = some (.cells #[.string m.nm, .slice x1 m.cs.length p1, .slice (some a) m.fs.length p2, .slice x3 m.js.length p3] 26 (0, 0))) := by rw [eR]; exact (Below.heap_alloc _ _ _ (blk_in MX.out)).trans MX.out
  have AB : Hid (Below w.heap.size w AR) := by rw [eR, eM]; exact ((Below.refl _ _).alloc (Nat.le_refl _) _).alloc (by simp) _
  go_enter Tryz.func39, Tryz.ntmps39
  go_upto_region 1 with fail
  rw [← eM]
  clear eM E za
  go_upto_region 2 with fail
  rw [← eR]
  clear eR e0 e1 e2 e3 e4 e5 e6 e7 m2 zb MS MX
  have k0 : AR.cell? ⟨w.heap.size + 1, 0, none⟩ = some (.string s.nm) := by simp [World.cell?, AX.out]
  have k1 : AR.cell? ⟨w.heap.size + 1, 1, none⟩ = some (.int .i64 s.wh) := by simp [World.cell?, AX.out]
  have k2 : AR.cell? ⟨w.heap.size + 1, 2, none⟩ = some (.int .i64 s.ce) := by simp [World.cell?, AX.out]
  have k3 : AR.cell? ⟨w.heap.size + 1, 3, none⟩ = some (.int .i64 s.ba) := by simp [World.cell?, AX.out]
  have k4 : AR.cell? ⟨w.heap.size + 1, 4, none⟩ = some (.int .i64 s.rg) := by simp [World.cell?, AX.out]
  have k5 : AR.cell? ⟨w.heap.size + 1, 5, none⟩ = some (.int .i64 s.sl) := by simp [World.cell?, AX.out]
  have k6 : AR.cell? ⟨w.heap.size + 1, 6, none⟩ = some (.slice sx s.os.length sc) := by simp [World.cell?, AX.out]
  have k7 : AR.cell? ⟨w.heap.size + 1, 7, none⟩ = some (.slice sy s.ls.length sd) := by simp [World.cell?, AX.out]
  have m1 : AR.cell? ⟨w.heap.size, 1, none⟩ = some (.slice x1 m.cs.length p1) := by simp [World.cell?, AY.out]
  by_cases a1 : 1 ≤ s.wh
  case neg =>
    have a3 : s.wh < 1 := by omega
    rw [show inB 1 3 s.wh = false by unfold inB; rw [decide_eq_false a1]; rfl] at HV
    have ev : VV = false := HV.out.symm.trans (by simp)
    subst ev
    go_wp2
    go_ret
    exact ⟨rfl, AB.out⟩
  by_cases a2 : s.wh ≤ 3
  case neg =>
    rw [show inB 1 3 s.wh = false by unfold inB; rw [decide_eq_false a2, Bool.and_false]] at HV
    have ev : VV = false := HV.out.symm.trans (by simp)
    subst ev
    go_wp2
    go_ret
    exact ⟨rfl, AB.out⟩
  rw [show inB 1 3 s.wh = true by unfold inB; rw [decide_eq_true a1, decide_eq_true a2]; rfl, Bool.true_and] at HV
  go_wp2_with fail
  refine (I1.out _).mono ?_
  rintro e wN ⟨rfl, hN⟩
  rw [hN]
  clear hN wN
  cases r1
  case false =>
    have ev : VV = false := HV.out.symm.trans (by simp)
    subst ev
    go_wp2
    go_ret
    exact ⟨rfl, AB.out⟩
  have C1 := CE.out rfl
  rw [Bool.true_and] at HV
  go_wp2_with fail
  refine (I2.out _).mono ?_
  rintro e wN ⟨rfl, hN⟩
  rw [hN]
  clear hN wN
  cases r2
  case false =>
    have ev : VV = false := HV.out.symm.trans (by simp)
    subst ev
    go_wp2
    go_ret
    exact ⟨rfl, AB.out⟩
  rw [Bool.true_and] at HV
  go_wp2_with fail
  refine (I3.out _).mono ?_
  rintro e wN ⟨rfl, hN⟩
  rw [hN]
  clear hN wN
  cases r3
  case false =>
    have ev : VV = false := HV.out.symm.trans (by simp)
    subst ev
    go_wp2
    go_ret
    exact ⟨rfl, AB.out⟩
  rw [Bool.true_and] at HV
  by_cases z0 : s.os.length = 0
  case pos =>
    have z1 : ((s.os.length : Int) == 0) = true := by rw [beq_iff_eq]; omega
    have en : enB s = false := by unfold enB; rw [List.length_eq_zero_iff.1 z0]; rfl
    rw [en, Bool.and_false, Bool.false_and] at HV
    clear en
    have ev : VV = false := HV.out.symm.trans (rfl)
    subst ev
    go_wp2
    go_ret
    exact ⟨rfl, AB.out⟩
  have z1 : ((s.os.length : Int) == 0) = false := by rw [beq_eq_false_iff_ne]; omega
  have Z0 : Hid (¬ s.os.length = 0) := z0
  clear z0 I1 I2 I3
  go_upto_region 5 with fail
  clear a1 a2
  have ws : wrap64 ((m.cs.length : Int) - s.ce) = (m.cs.length : Int) - s.ce := by have := HN.out; unfold wrap64; omega
  go_cut [71] (fun s71 wx => s71 = .bool (!(baB s m.cs.length)) ∧ wx = AR)
  case first =>
    by_cases b1 : s.ba = -1
    · have b2 : (s.ba == -1) = true := by simp [b1]
      have b3 : (s.ba != -1) = false := by simp [b1]
      have ev : baB s m.cs.length = true := by unfold baB; rw [decide_eq_true b1]; rfl
      have EV : Hid _ := ev
      clear ev b1
      go_wp2_with fail
      go_meet
      case rel => exact ⟨by rw [EV.out]; rfl, rfl⟩
    have b2 : (s.ba == -1) = false := by simp [b1]
    have b3 : (s.ba != -1) = true := by simp [b1]
    have BA : Hid (baB s m.cs.length = (decide (s.wh = 1) && ftB s.ba s.ce m.cs.length)) := by show baB _ _ = _; unfold baB; rw [decide_eq_false b1]; rfl
    clear b1
    unfold ftB at BA
    by_cases c1 : s.wh = 1
    case neg =>
      have c2 : (s.wh == 1) = false := by simp [c1]
      have c3 : (s.wh != 1) = true := by simp [c1]
      rw [decide_eq_false c1] at BA
      clear c1
      go_wp2_with fail
      go_meet
      case rel => exact ⟨by rw [BA.out]; rfl, rfl⟩
    have c2 : (s.wh == 1) = true := by simp [c1]
    have c3 : (s.wh != 1) = false := by simp [c1]
    rw [decide_eq_true c1, Bool.true_and] at BA
    clear c1
    by_cases d1 : 0 ≤ s.ba
    case neg =>
      rw [decide_eq_false d1] at BA
      go_wp2_with fail
      go_meet
      case rel => exact ⟨by rw [BA.out]; rfl, rfl⟩
    rw [decide_eq_true d1, Bool.true_and] at BA
    by_cases d2 : s.ba ≤ (m.cs.length : Int) - s.ce
    case neg =>
      have d3 : (m.cs.length : Int) - s.ce < s.ba := by omega
      rw [decide_eq_false d2] at BA
      clear d2
      go_wp2_with fail
      go_meet
      case rel => exact ⟨by rw [BA.out]; first | rfl | simp, rfl⟩
    rw [decide_eq_true d2] at BA
    have d3 : ¬ (m.cs.length : Int) - s.ce < s.ba := by omega
    go_wp2_with fail
    go_meet
    case rel => exact ⟨by rw [BA.out]; first | rfl | (simp; omega), rfl⟩
  case rest =>
    obtain ⟨rfl, hc⟩ := hcut
    rw [hc]
    clear hc wc ws C1
    generalize baB s m.cs.length = rb at *
    cases rb
    case false =>
      have ev : VV = false := HV.out.symm.trans (by simp)
      subst ev
      go_wp2
      go_ret
      exact ⟨rfl, AB.out⟩
    rw [Bool.true_and] at HV
    obtain ⟨d, rfl⟩ := QS.out.1.some (by have := Z0.out; omega)
    obtain ⟨o, ov, oe, ob, rfl, ok⟩ := QS.out.1.el (s.os.length - 1) (by have := Z0.out; omega)
    have n2 : wrap64 ((s.os.length : Int) - 1) = ((s.os.length - 1 : Nat) : Int) := by have := Z0.out; have := OK.out.2.2.2.2.2.2.2.2.1; unfold wrap64; omega
    have f0 : AR.cell? (d.add ((wrap64 ((s.os.length : Int) - 1)).toNat * 10)) = some (.int .i64 o.cd) := by
      rw [n2]
      exact (AB.out.cell (by rw [add_block]; exact HS.out _ ob)).trans ok.c0
    have n3 : 0 ≤ wrap64 ((s.os.length : Int) - 1) := by rw [n2]; omega
    have n4 : wrap64 ((s.os.length : Int) - 1) < (s.os.length : Int) := by rw [n2]; have := Z0.out; omega
    have EN : Hid (enB s = laB o) := by
      show enB s = _
      unfold enB laB
      rw [List.getLast?_eq_getElem?, oe]
    rw [EN.out] at HV
    clear oe ob ok n2 EN
    go_upto_region 8 with fail
    go_cut [88] (fun s88 wx => s88 = .bool (!(laB o)) ∧ wx = AR)
    case first =>
      by_cases g1 : o.cd = 16
      · have g2 : (o.cd == 16) = true := by simp [g1]
        have g3 : (o.cd != 16) = false := by simp [g1]
        have ev : laB o = true := by unfold laB; exact decide_eq_true (Or.inl g1)
        have EV : Hid _ := ev
        clear ev g1
        go_wp2_with fail
        go_meet
        case rel => exact ⟨by rw [EV.out]; rfl, rfl⟩
      have g2 : (o.cd == 16) = false := by simp [g1]
      have g3 : (o.cd != 16) = true := by simp [g1]
      by_cases g4 : o.cd = 20
      · have g5 : (o.cd == 20) = true := by simp [g4]
        have g6 : (o.cd != 20) = false := by simp [g4]
        have ev : laB o = true := by unfold laB; exact decide_eq_true (Or.inr (Or.inl g4))
        have EV : Hid _ := ev
        clear ev g1 g4
        go_wp2_with fail
        go_meet
        case rel => exact ⟨by rw [EV.out]; rfl, rfl⟩
      have g5 : (o.cd == 20) = false := by simp [g4]
      have g6 : (o.cd != 20) = true := by simp [g4]
      by_cases g7 : o.cd = 21
      · have g8 : (o.cd == 21) = true := by simp [g7]
        have g9 : (o.cd != 21) = false := by simp [g7]
        have ev : laB o = true := by unfold laB; exact decide_eq_true (Or.inr (Or.inr g7))
        have EV : Hid _ := ev
        clear ev g1 g4 g7
        go_wp2_with fail
        go_meet
        case rel => exact ⟨by rw [EV.out]; rfl, rfl⟩
      · have g8 : (o.cd == 21) = false := by simp [g7]
        have g9 : (o.cd != 21) = true := by simp [g7]
        have ev : laB o = false := by unfold laB; exact decide_eq_false (by omega)
        have EV : Hid _ := ev
        clear ev g1 g4 g7
        go_wp2_with fail
        go_meet
        case rel => exact ⟨by rw [EV.out]; rfl, rfl⟩
    case rest =>
      obtain ⟨rfl, hc⟩ := hcut
      rw [hc]
      clear hc wc f0 n3 n4
      generalize laB o = rl at *
      cases rl
      case false =>
        have ev : VV = false := HV.out.symm.trans (by simp)
        subst ev
        go_wp2
        go_ret
        exact ⟨rfl, AB.out⟩
      rw [Bool.true_and] at HV
      go_upto_region 11 with fail
      clear k0 k1 k2 k3 k4 k5 k6 k7 m1
      go_loopw [8] (fun u wr => ∃ k : Nat, k ≤ s.ls.length ∧ u = .int .i64 k ∧ Below w.heap.size w wr ∧ wr.heap[w.heap.size + 1]? = some (.cells #[.string s.nm, .int .i64 s.wh, .int .i64 s.ce, .int .i64 s.ba, .int .i64 s.rg, .int .i64 s.sl, .slice (some d) s.os.length sc, .slice sy s.ls.length sd] 44 (0, 0)) ∧ ∀ (j : Nat) t, j < k → s.ls[j]? = some t → lpB s.os.length t = true) (fun u _ => s.ls.length - (intOf u).toNat)
      case atStart => exact ⟨0, Nat.zero_le _, rfl, AB.out, AX.out, fun j t hj => absurd hj (Nat.not_lt_zero _)⟩
      case round =>
        obtain ⟨k, hk, rfl, hbw, hx, hall⟩ := hrel
        have HW : Hid (Below w.heap.size w wr) := hbw
        have HX : Hid (wr.heap[w.heap.size + 1]? = some (.cells #[.string s.nm, .int .i64 s.wh, .int .i64 s.ce, .int .i64 s.ba, .int .i64 s.rg, .int .i64 s.sl, .slice (some d) s.os.length sc, .slice sy s.ls.length sd] 44 (0, 0))) := hx
        have AL : Hid (∀ (j : Nat) t, j < k → s.ls[j]? = some t → lpB s.os.length t = true) := hall
        clear hall
        have k7 : wr.cell? ⟨w.heap.size + 1, 7, none⟩ = some (.slice sy s.ls.length sd) := by simp [World.cell?, hx]
        by_cases hlt : k < s.ls.length
        · obtain ⟨b, rfl⟩ := QS.out.2.some (by omega)
          obtain ⟨t, tv, te, tb, rfl, tk⟩ := (QS.out.2.fr (w' := wr) (fun q hq => hbw.cell (HS.out _ hq))).el k hlt
          have f0 := tk.c0
          have f1 := tk.cp 0 _ rfl
          have f2 := tk.cp 1 _ rfl
          have TE : Hid (s.ls[k]? = some t) := te
          have LT : Hid (k < s.ls.length) := hlt
          have kl : (k : Int) < s.ls.length := by omega
          have LB : Hid (lsB s = true → lpB s.os.length t = true) := fun h => by unfold lsB at h; rw [List.all_eq_true] at h; exact h t (List.mem_of_getElem? te)
          have za := block_lt_of_cell f0
          have ew : wrap64 ((k : Int) + 1) = (k : Int) + 1 := by have := OK.out.2.2.2.2.2.2.2.2.2; unfold wrap64; omega
          clear hbw hx te tb tk hlt
          have I4 : Hid (∀ W, Calls Tryz.prog 83 #[.int .i64 t.tm, .int .i64 65536] W fun e w' => e = .returned (.bool (inB 0 65536 t.tm)) ∧ w' = W) := fun W => inR_of _ _ W
          have BAD : Hid (lpB s.os.length t = false → VV = false) := fun h => HV.out.symm.trans (ls_bad TE.out h)
          obtain ⟨A2, e2⟩ : ∃ A2, A2 = wr.alloc (.cells #[.int .i64 t.hd, .int .i64 t.en, .int .i64 t.tm] 48 (0, 0)) := ⟨_, rfl⟩
          have X2 : Hid (A2.heap[wr.heap.size]? = some (.cells #[.int .i64 t.hd, .int .i64 t.en, .int .i64 t.tm] 48 (0, 0))) := by rw [e2]; exact heap_alloc_last _ _
          have Y2 : Hid (A2.heap[w.heap.size + 1]? = some (.cells #[.string s.nm, .int .i64 s.wh, .int .i64 s.ce, .int .i64 s.ba, .int .i64 s.rg, .int .i64 s.sl, .slice (some d) s.os.length sc, .slice (some b) s.ls.length sd] 44 (0, 0))) := by rw [e2]; exact (Below.heap_alloc _ _ _ (blk_in HX.out)).trans HX.out
          have B2 : Hid (Below w.heap.size w A2) := by rw [e2]; exact HW.out.trans (((Below.refl _ _).alloc (Nat.le_refl _) _).mono HW.out.size)
          go_upto_region 14 with fail
          rw [← e2]
          clear e2 f0 f1 f2 za k7
          have g0 : A2.cell? ⟨wr.heap.size, 0, none⟩ = some (.int .i64 t.hd) := by simp [World.cell?, X2.out]
          have g1 : A2.cell? ⟨wr.heap.size, 1, none⟩ = some (.int .i64 t.en) := by simp [World.cell?, X2.out]
          have g2 : A2.cell? ⟨wr.heap.size, 2, none⟩ = some (.int .i64 t.tm) := by simp [World.cell?, X2.out]
          by_cases c1 : 0 ≤ t.hd
          case neg =>
            have ev : VV = false := BAD.out (by unfold lpB; rw [decide_eq_false c1]; rfl)
            subst ev
            go_wp2
            go_ret
            exact ⟨rfl, B2.out⟩
          by_cases c2 : t.hd ≤ t.en
          case neg =>
            have ev : VV = false := BAD.out (by unfold lpB; rw [decide_eq_false c2, Bool.and_false]; rfl)
            subst ev
            go_wp2
            go_ret
            exact ⟨rfl, B2.out⟩
          by_cases c3 : t.en ≤ s.os.length
          case neg =>
            have ev : VV = false := BAD.out (by unfold lpB; rw [decide_eq_false c3, Bool.and_false]; rfl)
            subst ev
            go_wp2
            go_ret
            exact ⟨rfl, B2.out⟩
          have LP : Hid (lpB s.os.length t = inB 0 65536 t.tm) := by show lpB _ _ = _; unfold lpB; rw [decide_eq_true c1, decide_eq_true c2, decide_eq_true c3]; rfl
          generalize inB 0 65536 t.tm = r at *
          go_wp2_with fail
          refine (I4.out _).mono ?_
          rintro e wN ⟨rfl, hN⟩
          rw [hN]
          clear hN wN
          cases r
          case false =>
            have ev : VV = false := BAD.out LP.out
            subst ev
            go_wp2
            go_ret
            exact ⟨rfl, B2.out⟩
          go_wp2
          try rw [ew]
          refine ⟨?_, msr LT.out⟩
          (repeat apply Exists.intro)
          refine ⟨?_, rfl⟩
          exact ⟨k + 1, Nat.succ_le_of_lt LT.out, rfl, B2.out, Y2.out, fun j u hj hu => by
            rcases Nat.lt_succ_iff_lt_or_eq.1 hj with h | rfl
            · exact AL.out j u h hu
            · rw [TE.out] at hu; cases hu; exact LP.out⟩
        · have kl : ¬ (k : Int) < s.ls.length := by omega
          have ev : VV = true := HV.out.symm.trans (by
            unfold lsB
            rw [List.all_eq_true]
            intro t ht
            obtain ⟨j, hj⟩ := List.mem_iff_getElem?.1 ht
            exact AL.out j t (by have := (List.getElem?_eq_some_iff.1 hj).1; omega) hj)
          subst ev
          clear hbw hx hlt
          go_wp2
          go_ret
          exact ⟨rfl, HW.out⟩
end Go.Proofs.YtdcjngakmkgbmaaGreat
