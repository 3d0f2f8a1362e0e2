/- The document's image: may a task be; no statement of the seat is proved here. -/
import Derived.Test.YtdcjngakmkgbmaaGreatKoA9
import Derived.Test.YtdcjngakmkgbmaaGreatKoB3
import Derived.Deep.RegionHeld3
namespace Go.Proofs.YtdcjngakmkgbmaaGreat
set_option linter.unusedVariables false
open Go.RowKit
theorem tr_sg (m : ImR) (j : JbR) : trB m j = (sgB m.cs j.sg && decide (0 ≤ j.iv) && inB 0 65535 j.pr && inB 0 1048576 j.bd) := rfl
theorem tr_iv {m : ImR} {j : JbR} (h : ¬ 0 ≤ j.iv) : trB m j = false := by rw [tr_sg, decide_eq_false h]; simp
theorem tr_pr {m : ImR} {j : JbR} (h : inB 0 65535 j.pr = false) : trB m j = false := by rw [tr_sg, h]; simp
theorem tr_bd {m : ImR} {j : JbR} (h : inB 0 1048576 j.bd = false) : trB m j = false := by rw [tr_sg, h]; simp
theorem tr_lo {m : ImR} {j : JbR} (h : j.sg < -1) : trB m j = false := by
  rw [tr_sg, sg_out (by omega) (by unfold inB; rw [decide_eq_false (show ¬ 0 ≤ j.sg by omega)]; rfl)]; rfl
theorem tr_hi {m : ImR} {j : JbR} (h : (m.cs.length : Int) ≤ j.sg) : trB m j = false := by
  rw [tr_sg, sg_out (by omega) (by unfold inB; rw [decide_eq_false (show ¬ j.sg ≤ (m.cs.length : Int) - 1 by omega), Bool.and_false])]; rfl
theorem tr_kd {m : ImR} {j : JbR} {c : CeR} (h0 : 0 ≤ j.sg) (h : m.cs[j.sg.toNat]? = some c) (hk : ¬ c.kd = 1) : trB m j = false := by
  rw [tr_sg, sg_in h0 h, decide_eq_false hk]; rfl
theorem tr_on {m : ImR} {j : JbR} (h1 : 0 ≤ j.iv) (h2 : inB 0 65535 j.pr = true) (h3 : inB 0 1048576 j.bd = true) (h4 : j.sg = -1 ∨ ∃ c, 0 ≤ j.sg ∧ m.cs[j.sg.toNat]? = some c ∧ c.kd = 1) : trB m j = true := by
  rw [tr_sg, decide_eq_true h1, h2, h3]
  rcases h4 with h | ⟨c, h0, h, hk⟩
  · rw [h, sg_m1]; rfl
  · rw [sg_in h0 h, decide_eq_true hk]; rfl
set_option maxRecDepth 20000 in
set_option maxHeartbeats 8000000 in
theorem jobR_of (m : ImR) (x1 x2 x3 : Option Addr) (p1 p2 p3 i : Nat) (s : JbR) (w : World) {S : Nat → Prop} (hS : ∀ b, S b → b < w.heap.size) (ha : ImQ S w m x1 x2 x3) (ho : ∀ j ∈ m.js, JbOk j)
    (hn : m.cs.length ≤ 1048576) (hm : m.fs.length ≤ 1048576) (hc : ∀ f ∈ m.fs, 0 ≤ f.ce ∧ f.ce ≤ 4096) (hi : m.js[i]? = some s) :
    Calls Tryz.prog 41 #[ImB m x1 x2 x3 p1 p2 p3, .int .i64 i] w fun e w' => e = .returned (.bool (trB m s && rnB m s)) ∧ Below w.heap.size w w' := by
  have hl := (List.getElem?_eq_some_iff.1 hi).1
  have OK : Hid (JbOk s) := ho s (List.mem_of_getElem? hi)
  have HS : Hid (∀ b, S b → b < w.heap.size) := hS
  have HN : Hid (m.cs.length ≤ 1048576) := hn
  have HM : Hid (m.fs.length ≤ 1048576) := hm
  have HC : Hid (∀ f ∈ m.fs, 0 ≤ f.ce ∧ f.ce ≤ 4096) := hc
  have H1 : Hid (RwF 11 (Is ceC) S w x1 m.cs) := ha.1
  have H2 : Hid (RwF 8 (FlP S w) S w x2 m.fs) := ha.2.1
  have h3 := ha.2.2
  obtain ⟨a, rfl⟩ := h3.some (by omega)
  obtain ⟨s', sv, se, sb, ⟨y1, c1, y2, c2, rfl, sq⟩, sk⟩ := h3.el i hl
  obtain rfl : s = s' := by rw [hi] at se; cases se; rfl
  have HJ : Hid (JbQ S w s y1 y2) := sq
  have e0 := sk.c0
  have e1 := sk.cp 0 _ rfl
  have e2 := sk.cp 1 _ rfl
  have e3 := sk.cp 2 _ rfl
  have e4 := sk.cp 3 _ rfl
  have e5 := sk.cp 4 _ rfl
  have e6 := sk.cp 5 _ rfl
  have E : Hid (∀ X : Obj, (w.alloc X).cell? (a.add (i * 7)) = some (.string s.nm) ∧ (w.alloc X).cell? ⟨(a.add (i * 7)).block, (a.add (i * 7)).off + (0 + 1), none⟩ = some (.int .i64 s.iv) ∧ (w.alloc X).cell? ⟨(a.add (i * 7)).block, (a.add (i * 7)).off + (1 + 1), none⟩ = some (.int .i64 s.sg) ∧ (w.alloc X).cell? ⟨(a.add (i * 7)).block, (a.add (i * 7)).off + (2 + 1), none⟩ = some (.int .i64 s.pr) ∧ (w.alloc X).cell? ⟨(a.add (i * 7)).block, (a.add (i * 7)).off + (3 + 1), none⟩ = some (.slice y1 s.cs.length c1) ∧ (w.alloc X).cell? ⟨(a.add (i * 7)).block, (a.add (i * 7)).off + (4 + 1), none⟩ = some (.slice y2 s.bs.length c2) ∧ (w.alloc X).cell? ⟨(a.add (i * 7)).block, (a.add (i * 7)).off + (5 + 1), none⟩ = some (.int .i64 s.bd)) := fun X => by
    have B := (Below.refl w.heap.size w).alloc (Nat.le_refl _) X
    have z := block_lt_of_cell e0
    exact ⟨(B.cell z).trans e0, (B.cell (p := ⟨(a.add (i * 7)).block, _, none⟩) z).trans e1, (B.cell (p := ⟨(a.add (i * 7)).block, _, none⟩) z).trans e2, (B.cell (p := ⟨(a.add (i * 7)).block, _, none⟩) z).trans e3, (B.cell (p := ⟨(a.add (i * 7)).block, _, none⟩) z).trans e4, (B.cell (p := ⟨(a.add (i * 7)).block, _, none⟩) z).trans e5, (B.cell (p := ⟨(a.add (i * 7)).block, _, none⟩) z).trans e6⟩
  have il : (i : Int) < m.js.length := by omega
  have za := block_lt_of_cell e0
  clear e0 e1 e2 e3 e4 e5 e6 ha hS ho hn hm hc sk sq se sb h3
  clear hi
  have I2 : Hid (∀ W, Calls Tryz.prog 83 #[.int .i64 s.pr, .int .i64 65535] W fun e w' => e = .returned (.bool (inB 0 65535 s.pr)) ∧ w' = W) := fun W => inR_of _ _ W
  have I3 : Hid (∀ W, Calls Tryz.prog 83 #[.int .i64 s.bd, .int .i64 1048576] W fun e w' => e = .returned (.bool (inB 0 1048576 s.bd)) ∧ w' = W) := fun W => inR_of _ _ W
  generalize hv : (trB m s && rnB m s) = VV
  have HV : Hid ((trB m s && rnB m s) = VV) := hv
  clear hv
  have BT : Hid (trB m s = false → VV = false) := fun h => HV.out.symm.trans (by rw [h]; rfl)
  have BR : Hid (rnB m s = false → VV = false) := fun h => HV.out.symm.trans (by rw [h, Bool.and_false])
  have T2 : Hid (inB 0 65535 s.pr = false → trB m s = false) := tr_pr
  have T3 : Hid (inB 0 1048576 s.bd = false → trB m s = false) := tr_bd
  have TO : Hid (0 ≤ s.iv → inB 0 65535 s.pr = true → inB 0 1048576 s.bd = true → (s.sg = -1 ∨ ∃ c, 0 ≤ s.sg ∧ m.cs[s.sg.toNat]? = some c ∧ c.kd = 1) → trB m s = true) := tr_on
  generalize inB 0 65535 s.pr = r2 at *
  generalize inB 0 1048576 s.bd = r3 at *
  obtain ⟨AM, eM⟩ : ∃ AM, AM = w.alloc (.cells #[.string m.nm, .slice x1 m.cs.length p1, .slice x2 m.fs.length p2, .slice (some a) m.js.length p3] 26 (0, 0)) := ⟨_, rfl⟩
  have MX : Hid (AM.heap[w.heap.size]? = some (.cells #[.string m.nm, .slice x1 m.cs.length p1, .slice x2 m.fs.length p2, .slice (some a) m.js.length p3] 26 (0, 0))) := by rw [eM]; exact heap_alloc_last _ _
  have MS : AM.heap.size = w.heap.size + 1 := by rw [eM]; simp
  obtain ⟨e0, e1, e2, e3, e4, e5, e6⟩ := E.out (.cells #[.string m.nm, .slice x1 m.cs.length p1, .slice x2 m.fs.length p2, .slice (some a) m.js.length p3] 26 (0, 0))
  rw [← eM] at e0 e1 e2 e3 e4 e5 e6
  have m3 : AM.cell? ⟨w.heap.size, 3, none⟩ = some (.slice (some a) m.js.length p3) := by simp [World.cell?, MX.out]
  have zb := block_lt_of_cell e0
  obtain ⟨AR, eR⟩ : ∃ AR, AR = AM.alloc (.cells #[.string s.nm, .int .i64 s.iv, .int .i64 s.sg, .int .i64 s.pr, .slice y1 s.cs.length c1, .slice y2 s.bs.length c2, .int .i64 s.bd] 51 (0, 0)) := ⟨_, rfl⟩
  have AX : Hid (AR.heap[w.heap.size + 1]? = some (.cells #[.string s.nm, .int .i64 s.iv, .int .i64 s.sg, .int .i64 s.pr, .slice y1 s.cs.length c1, .slice y2 s.bs.length c2, .int .i64 s.bd] 51 (0, 0))) := by rw [eR, ← MS]; exact heap_alloc_last _ _
  have AY : Hid (AR.heap[w.heap.size]? = some (.cells #[.string m.nm, .slice x1 m.cs.length p1, .slice x2 m.fs.length p2, .slice (some a) m.js.length p3] 26 (0, 0))) := by rw [eR]; exact (Below.heap_alloc _ _ _ (blk_in MX.out)).trans MX.out
  have AB : Hid (Below w.heap.size w AR) := by rw [eR, eM]; exact ((Below.refl _ _).alloc (Nat.le_refl _) _).alloc (by simp) _
  go_enter Tryz.func41, Tryz.ntmps41
  go_upto_region 1 with fail
  rw [← eM]
  clear eM E za
  go_upto_region 2 with fail
  rw [← eR]
  clear eR e0 e1 e2 e3 e4 e5 e6 m3 zb MS MX
  have k0 : AR.cell? ⟨w.heap.size + 1, 0, none⟩ = some (.string s.nm) := by simp [World.cell?, AX.out]
  have k1 : AR.cell? ⟨w.heap.size + 1, 1, none⟩ = some (.int .i64 s.iv) := by simp [World.cell?, AX.out]
  have k2 : AR.cell? ⟨w.heap.size + 1, 2, none⟩ = some (.int .i64 s.sg) := by simp [World.cell?, AX.out]
  have k3 : AR.cell? ⟨w.heap.size + 1, 3, none⟩ = some (.int .i64 s.pr) := by simp [World.cell?, AX.out]
  have k4 : AR.cell? ⟨w.heap.size + 1, 4, none⟩ = some (.slice y1 s.cs.length c1) := by simp [World.cell?, AX.out]
  have k5 : AR.cell? ⟨w.heap.size + 1, 5, none⟩ = some (.slice y2 s.bs.length c2) := by simp [World.cell?, AX.out]
  have k6 : AR.cell? ⟨w.heap.size + 1, 6, none⟩ = some (.int .i64 s.bd) := by simp [World.cell?, AX.out]
  have m1 : AR.cell? ⟨w.heap.size, 1, none⟩ = some (.slice x1 m.cs.length p1) := by simp [World.cell?, AY.out]
  by_cases a1 : 0 ≤ s.iv
  case neg =>
    have a3 : s.iv < 0 := by omega
    have ev : VV = false := BT.out (tr_iv a1)
    subst ev
    go_wp2
    go_ret
    exact ⟨rfl, AB.out⟩
  have A1 : Hid (0 ≤ s.iv) := a1
  have a3 : ¬ s.iv < 0 := by omega
  clear a1
  go_wp2_with fail
  refine (I2.out _).mono ?_
  rintro e wN ⟨rfl, hN⟩
  rw [hN]
  clear hN wN
  cases r2
  case false =>
    have ev : VV = false := BT.out (T2.out rfl)
    subst ev
    go_wp2
    go_ret
    exact ⟨rfl, AB.out⟩
  go_wp2_with fail
  refine (I3.out _).mono ?_
  rintro e wN ⟨rfl, hN⟩
  rw [hN]
  clear hN wN
  cases r3
  case false =>
    have ev : VV = false := BT.out (T3.out rfl)
    subst ev
    go_wp2
    go_ret
    exact ⟨rfl, AB.out⟩
  by_cases b1 : s.sg < -1
  case pos =>
    have ev : VV = false := BT.out (tr_lo b1)
    subst ev
    go_wp2
    go_ret
    exact ⟨rfl, AB.out⟩
  by_cases b2 : (m.cs.length : Int) ≤ s.sg
  case pos =>
    have ev : VV = false := BT.out (tr_hi b2)
    subst ev
    go_wp2
    go_ret
    exact ⟨rfl, AB.out⟩
  go_upto_region 4 with fail
  clear I2 I3 T2 T3
  go_cut [53] (fun s53 wx => s53 = .bool (!(trB m s)) ∧ wx = AR)
  case first =>
    by_cases b3 : 0 ≤ s.sg
    case neg =>
      have b4 : s.sg = -1 := by omega
      have EV : Hid (trB m s = true) := TO.out A1.out (by first | rfl | trivial) (by first | rfl | trivial) (Or.inl b4)
      clear b4
      go_wp2_with fail
      go_meet
      case rel => exact ⟨by rw [EV.out]; rfl, rfl⟩
    obtain ⟨z, ez⟩ : ∃ z : Nat, s.sg = z := ⟨s.sg.toNat, by omega⟩
    have hz : z < m.cs.length := by omega
    obtain ⟨d, rfl⟩ := H1.out.some (by omega)
    obtain ⟨c, cv, ce, cb, rfl, ck⟩ := H1.out.el z hz
    have f0 : AR.cell? (d.add (s.sg.toNat * 11)) = some (.int .u8 c.kd) := by
      rw [ez, Int.toNat_natCast]
      exact (AB.out.cell (by rw [add_block]; exact HS.out _ cb)).trans ck.c0
    have CE : Hid (m.cs[s.sg.toNat]? = some c) := by rw [ez, Int.toNat_natCast]; exact ce
    clear ce cb ck hz ez
    have b4 : s.sg < m.cs.length := by omega
    by_cases q : c.kd = 1
    · have q1 : (c.kd == 1) = true := by simp [q]
      have q2 : (c.kd != 1) = false := by simp [q]
      have EV : Hid (trB m s = true) := TO.out A1.out (by first | rfl | trivial) (by first | rfl | trivial) (Or.inr ⟨c, b3, CE.out, q⟩)
      clear q
      go_wp2_with fail
      go_meet
      case rel => exact ⟨by rw [EV.out]; rfl, rfl⟩
    · have q1 : (c.kd == 1) = false := by simp [q]
      have q2 : (c.kd != 1) = true := by simp [q]
      have EV : Hid (trB m s = false) := tr_kd b3 CE.out q
      clear q
      go_wp2_with fail
      go_meet
      case rel => exact ⟨by rw [EV.out]; rfl, rfl⟩
  case rest =>
    obtain ⟨rfl, hc⟩ := hcut
    rw [hc]
    clear hc wc TO A1 a3 b1 b2
    generalize trB m s = rt at *
    cases rt
    case false =>
      have ev : VV = false := BT.out rfl
      subst ev
      go_wp2
      go_ret
      exact ⟨rfl, AB.out⟩
    rw [Bool.true_and] at HV
    clear BT
    by_cases q1 : s.cs.length = s.bs.length
    case neg =>
      have n1 : ((s.cs.length : Int) == (s.bs.length : Int)) = false := by rw [beq_eq_false_iff_ne]; omega
      have n2 : ((s.cs.length : Int) != (s.bs.length : Int)) = true := by simp only [bne, n1]; rfl
      have ev : VV = false := BR.out (by unfold rnB; rw [decide_eq_false q1]; rfl)
      subst ev
      clear q1
      go_wp2
      go_ret
      exact ⟨rfl, AB.out⟩
    have n1 : ((s.cs.length : Int) == (s.bs.length : Int)) = true := by rw [beq_iff_eq]; omega
    have n2 : ((s.cs.length : Int) != (s.bs.length : Int)) = false := by simp only [bne, n1]; rfl
    have Q1 : Hid (s.cs.length = s.bs.length) := q1
    clear q1
    by_cases q2 : s.cs.length ≤ 32
    case neg =>
      have n3 : (32 : Int) < (s.cs.length : Int) := by omega
      have ev : VV = false := BR.out (by unfold rnB; rw [decide_eq_false q2, Bool.and_false]; rfl)
      subst ev
      clear q2
      go_wp2
      go_ret
      exact ⟨rfl, AB.out⟩
    have n3 : ¬ (32 : Int) < (s.cs.length : Int) := by omega
    have Q2 : Hid (s.cs.length ≤ 32) := q2
    clear q2
    go_upto_region 8 with fail
    clear n1 n2 n3 k0 k1 k2 k3 k4 k5 k6 m1
    go_upto_region 9 with fail
    go_loopw [6] (fun u wr => ∃ k : Nat, k ≤ s.cs.length ∧ u = .int .i64 k ∧ Below w.heap.size w wr ∧ wr.heap[w.heap.size + 1]? = some (.cells #[.string s.nm, .int .i64 s.iv, .int .i64 s.sg, .int .i64 s.pr, .slice y1 s.cs.length c1, .slice y2 s.bs.length c2, .int .i64 s.bd] 51 (0, 0)) ∧ wr.heap[w.heap.size]? = some (.cells #[.string m.nm, .slice x1 m.cs.length p1, .slice x2 m.fs.length p2, .slice (some a) m.js.length p3] 26 (0, 0)) ∧ ∀ i, i < k → runB m (s.cs.getD i 0) (s.bs.getD i 0) = true) (fun u _ => s.cs.length - (intOf u).toNat)
    case atStart => exact ⟨0, Nat.zero_le _, rfl, AB.out, AX.out, AY.out, fun i hi => absurd hi (Nat.not_lt_zero _)⟩
    case round =>
      obtain ⟨k, hk, rfl, hbw, hx, hy, hall⟩ := hrel
      have HW : Hid (Below w.heap.size w wr) := hbw
      have HX : Hid (wr.heap[w.heap.size + 1]? = some (.cells #[.string s.nm, .int .i64 s.iv, .int .i64 s.sg, .int .i64 s.pr, .slice y1 s.cs.length c1, .slice y2 s.bs.length c2, .int .i64 s.bd] 51 (0, 0))) := hx
      have HY : Hid (wr.heap[w.heap.size]? = some (.cells #[.string m.nm, .slice x1 m.cs.length p1, .slice x2 m.fs.length p2, .slice (some a) m.js.length p3] 26 (0, 0))) := hy
      have AL : Hid (∀ i, i < k → runB m (s.cs.getD i 0) (s.bs.getD i 0) = true) := hall
      clear hall AX AB AY
      have k4 : wr.cell? ⟨w.heap.size + 1, 4, none⟩ = some (.slice y1 s.cs.length c1) := by simp [World.cell?, hx]
      by_cases hlt : k < s.cs.length
      · obtain ⟨b, rfl⟩ := HJ.out.1.some (by omega)
        obtain ⟨g, rfl⟩ := HJ.out.2.some (by have := Q1.out; omega)
        obtain ⟨z, zv, ze, zs, rfl, zk⟩ := HJ.out.1.el k hlt
        obtain ⟨u, uv, ue, us, rfl, uk⟩ := HJ.out.2.el k (by have := Q1.out; omega)
        have gz : s.cs.getD k 0 = z := by simp [List.getD, ze]
        have gu : s.bs.getD k 0 = u := by simp [List.getD, ue]
        have z0 := zk.c0
        have u0 := uk.c0
        rw [Nat.mul_one] at z0 u0
        have LT : Hid (k < s.cs.length) := hlt
        have kl : (k : Int) < s.cs.length := by omega
        have klb : (k : Int) < s.bs.length := by have := Q1.out; omega
        have CZ : Hid (∀ V, Below w.heap.size w V → V.cell? (b.add k) = some (.int .i64 z) ∧ V.cell? (g.add k) = some (.int .i64 u)) := fun V h => ⟨(h.cell (by rw [add_block]; exact HS.out _ zs)).trans z0, (h.cell (by rw [add_block]; exact HS.out _ us)).trans u0⟩
        have BAD : Hid (runB m z u = false → VV = false) := fun h => BR.out (rn_bad LT.out (by rw [gz, gu]; exact h))
        have NXT : Hid (runB m z u = true → ∀ i, i < k + 1 → runB m (s.cs.getD i 0) (s.bs.getD i 0) = true) := fun h i hi => by
          rcases Nat.lt_succ_iff_lt_or_eq.1 hi with q | rfl
          · exact AL.out i q
          · rw [gz, gu]; exact h
        have CB : Hid (∀ V, Below wr.heap.size wr V → V.heap[w.heap.size + 1]? = some (.cells #[.string s.nm, .int .i64 s.iv, .int .i64 s.sg, .int .i64 s.pr, .slice (some b) s.cs.length c1, .slice (some g) s.bs.length c2, .int .i64 s.bd] 51 (0, 0)) ∧ V.heap[w.heap.size]? = some (.cells #[.string m.nm, .slice x1 m.cs.length p1, .slice x2 m.fs.length p2, .slice (some a) m.js.length p3] 26 (0, 0))) := fun V h => ⟨(h.block _ (blk_in HX.out)).trans HX.out, (h.block _ (blk_in HY.out)).trans HY.out⟩
        have BW : Hid (∀ V, Below wr.heap.size wr V → Below w.heap.size w V) := fun V h => HW.out.trans (h.mono HW.out.size)
        clear hbw hx hy hlt ze zs zk ue us uk gz gu z0 u0
        go_upto_region 11 with fail
        clear k4
        have ws : wrap64 ((m.fs.length : Int) - 1) = (m.fs.length : Int) - 1 := by have := HM.out; unfold wrap64; omega
        have H0 : Hid (∀ W, Calls Tryz.prog 83 #[.int .i64 z, .int .i64 ((m.fs.length : Int) - 1)] W fun e w' => e = .returned (.bool (inB 0 ((m.fs.length : Int) - 1) z)) ∧ w' = W) := fun W => inR_of _ _ W
        have G0 : Hid (inB 0 ((m.fs.length : Int) - 1) z = false → runB m z u = false) := run_out u
        have G1 : Hid (inB 0 ((m.fs.length : Int) - 1) z = true → 0 ≤ z ∧ z < m.fs.length) := fun h => by have := inB_t h; omega
        generalize inB 0 ((m.fs.length : Int) - 1) z = r0 at *
        have m2 : ∀ y : Sub wr, y.w.cell? ⟨w.heap.size, 2, none⟩ = some (.slice x2 m.fs.length p2) := fun y => (y.h.cell (p := ⟨w.heap.size, 2, none⟩) (blk_in HY.out)).trans (by simp [World.cell?, HY.out])
        have j4 : ∀ y : Sub wr, y.w.cell? ⟨w.heap.size + 1, 4, none⟩ = some (.slice (some b) s.cs.length c1) := fun y => (y.h.cell (p := ⟨w.heap.size + 1, 4, none⟩) (blk_in HX.out)).trans (by simp [World.cell?, HX.out])
        have z0 : ∀ y : Sub wr, y.w.cell? (b.add k) = some (.int .i64 z) := fun y => (CZ.out y.w (BW.out _ y.h)).1
        have H0q : Hid (∀ y : Sub wr, _) := fun y => H0.out y.w
        have WIN : Hid (∀ y : Sub wr, Below wr.heap.size wr y.w) := fun y => y.h
        refine wp_region_sub2 (by kernel_rfl) (by kernel_rfl) ?_
        intro cx
        clear cx
        repeat (first | go_big_quiet_skip | (go_big_quiet_want; go_big_quiet_op; first | go_big_quiet_on | (refine ⟨_, fun _ => rfl, ?_⟩; go_big_quiet_on) | go_big_quiet_call (first | (go_at_call 83; exact calls_sub_same (H0q.out _)))))
        refine wpQuiet_nil ?_
        rintro _ ⟨y, rfl⟩
        have V2 : Hid (Below wr.heap.size wr y.w) := WIN.out y
        generalize y.w = v2 at *
        clear m2 j4 z0 H0q WIN y
        cases r0
        · have ev : VV = false := BAD.out (G0.out rfl)
          subst ev
          go_wp2
          go_ret
          exact ⟨rfl, BW.out _ V2.out⟩
        have zz := G1.out rfl
        obtain ⟨y, rfl⟩ : ∃ y : Nat, z = y := ⟨z.toNat, by omega⟩
        clear G0 G1 H0 ws
        obtain ⟨d, rfl⟩ := H2.out.some (by omega)
        obtain ⟨f, fv, fe, _, ⟨sx, sc, sy, sd, rfl, sq⟩, sk⟩ := (H2.out.frK keptF (w' := v2) (fun q hq => (BW.out _ V2.out).cell (HS.out _ hq))).el y (by omega)
        have e0 := sk.c0
        have e1 := sk.cp 0 _ rfl
        have e2 := sk.cp 1 _ rfl
        have e3 := sk.cp 2 _ rfl
        have e4 := sk.cp 3 _ rfl
        have e5 := sk.cp 4 _ rfl
        have e6 := sk.cp 5 _ rfl
        have e7 := sk.cp 6 _ rfl
        have RB : Hid (runB m y u = (decide (f.wh = 3) && ftB u f.ce m.cs.length)) := run_in u fe
        have CE : Hid (0 ≤ f.ce ∧ f.ce ≤ 4096) := HC.out f (List.mem_of_getElem? fe)
        have yl : (y : Int) < m.fs.length := zz.2
        clear sk sq fe zz
        have za := block_lt_of_cell e0
        obtain ⟨cb1, cb2⟩ := CB.out v2 V2.out
        have m2 : v2.cell? ⟨w.heap.size, 2, none⟩ = some (.slice (some d) m.fs.length p2) := by simp [World.cell?, cb2]
        have j4 : v2.cell? ⟨w.heap.size + 1, 4, none⟩ = some (.slice (some b) s.cs.length c1) := by simp [World.cell?, cb1]
        have z0 := (CZ.out v2 (BW.out _ V2.out)).1
        clear cb1 cb2
        go_upto_region 13 with fail
        obtain ⟨AR, eR⟩ : ∃ AR, AR = (v2.alloc (.cells #[.string f.nm, .int .i64 f.wh, .int .i64 f.ce, .int .i64 f.ba, .int .i64 f.rg, .int .i64 f.sl, .slice sx f.os.length sc, .slice sy f.ls.length sd] 44 (0, 0))).drew := ⟨_, rfl⟩
        have RX : AR.heap[v2.heap.size]? = some (.cells #[.string f.nm, .int .i64 f.wh, .int .i64 f.ce, .int .i64 f.ba, .int .i64 f.rg, .int .i64 f.sl, .slice sx f.os.length sc, .slice sy f.ls.length sd] 44 (0, 0)) := by rw [eR]; exact heap_alloc_last _ _
        have VR : Hid (Below wr.heap.size wr AR) := by rw [eR]; exact (V2.out.trans (((Below.refl _ _).alloc (Nat.le_refl _) _).mono V2.out.size)).drew
        go_region_held3 (fun W1 => W1.cell? ⟨w.heap.size, 2, none⟩ = some (.slice (some d) m.fs.length p2) ∧ W1.cell? ⟨w.heap.size + 1, 4, none⟩ = some (.slice (some b) s.cs.length c1) ∧ W1.cell? (b.add k) = some (.int .i64 y) ∧ W1.cell? (d.add (y * 8)) = some (.string f.nm) ∧ W1.cell? ⟨(d.add (y * 8)).block, (d.add (y * 8)).off + (0 + 1), none⟩ = some (.int .i64 f.wh) ∧ W1.cell? ⟨(d.add (y * 8)).block, (d.add (y * 8)).off + (1 + 1), none⟩ = some (.int .i64 f.ce) ∧ W1.cell? ⟨(d.add (y * 8)).block, (d.add (y * 8)).off + (2 + 1), none⟩ = some (.int .i64 f.ba) ∧ W1.cell? ⟨(d.add (y * 8)).block, (d.add (y * 8)).off + (3 + 1), none⟩ = some (.int .i64 f.rg) ∧ W1.cell? ⟨(d.add (y * 8)).block, (d.add (y * 8)).off + (4 + 1), none⟩ = some (.int .i64 f.sl) ∧ W1.cell? ⟨(d.add (y * 8)).block, (d.add (y * 8)).off + (5 + 1), none⟩ = some (.slice sx f.os.length sc) ∧ W1.cell? ⟨(d.add (y * 8)).block, (d.add (y * 8)).off + (6 + 1), none⟩ = some (.slice sy f.ls.length sd)) (go_keep) (fail)
        rw [← eR]
        clear eR e0 e1 e2 e3 e4 e5 e6 e7 za m2 j4 z0
        go_upto_region 14 with fail
        have CB2 := CB.out AR VR.out
        have m1 : ∀ y : Sub AR, y.w.cell? ⟨w.heap.size, 1, none⟩ = some (.slice x1 m.cs.length p1) := fun y => (y.h.cell (p := ⟨w.heap.size, 1, none⟩) (blk_in CB2.2)).trans (by simp [World.cell?, CB2.2])
        have j5 : ∀ y : Sub AR, y.w.cell? ⟨w.heap.size + 1, 5, none⟩ = some (.slice (some g) s.bs.length c2) := fun y => (y.h.cell (p := ⟨w.heap.size + 1, 5, none⟩) (blk_in CB2.1)).trans (by simp [World.cell?, CB2.1])
        have f1 : ∀ y : Sub AR, y.w.cell? ⟨v2.heap.size, 1, none⟩ = some (.int .i64 f.wh) := fun y => (y.h.cell (p := ⟨v2.heap.size, 1, none⟩) (blk_in RX)).trans (by simp [World.cell?, RX])
        have f2 : ∀ y : Sub AR, y.w.cell? ⟨v2.heap.size, 2, none⟩ = some (.int .i64 f.ce) := fun y => (y.h.cell (p := ⟨v2.heap.size, 2, none⟩) (blk_in RX)).trans (by simp [World.cell?, RX])
        have u0 : ∀ y : Sub AR, y.w.cell? (g.add k) = some (.int .i64 u) := fun y => (CZ.out y.w (BW.out _ (VR.out.trans (y.h.mono VR.out.size)))).2
        have WIN : Hid (∀ y : Sub AR, Below wr.heap.size wr y.w) := fun y => VR.out.trans (y.h.mono VR.out.size)
        have wc : wrap64 ((m.cs.length : Int) - f.ce) = (m.cs.length : Int) - f.ce := by have := HN.out; have := CE.out; unfold wrap64; omega
        clear RX CB2
        unfold ftB at RB
        by_cases q3 : f.wh = 3
        case neg =>
          have n3 : (f.wh == 3) = false := by simp [q3]
          have n4 : (f.wh != 3) = true := by simp [q3]
          have ev : VV = false := BAD.out (by rw [RB.out, decide_eq_false q3]; rfl)
          clear q3
          refine wp_region_sub2 (by kernel_rfl) (by kernel_rfl) ?_
          intro cx
          clear cx
          repeat (first | go_big_quiet_skip | (go_big_quiet_want; go_big_quiet_op; first | go_big_quiet_on | (refine ⟨_, fun _ => rfl, ?_⟩; go_big_quiet_on) | go_big_quiet_call (first | fail)))
          refine wpQuiet_nil ?_
          rintro _ ⟨y, rfl⟩
          clear m1 j5 f1 f2 u0
          subst ev
          go_wp2
          go_ret
          exact ⟨rfl, BW.out _ (WIN.out y)⟩
        have n3 : (f.wh == 3) = true := by simp [q3]
        have n4 : (f.wh != 3) = false := by simp [q3]
        rw [decide_eq_true q3, Bool.true_and] at RB
        clear q3
        by_cases q4 : 0 ≤ u
        case neg =>
          have n5 : u < 0 := by omega
          have ev : VV = false := BAD.out (by rw [RB.out, decide_eq_false q4]; rfl)
          clear q4
          refine wp_region_sub2 (by kernel_rfl) (by kernel_rfl) ?_
          intro cx
          clear cx
          repeat (first | go_big_quiet_skip | (go_big_quiet_want; go_big_quiet_op; first | go_big_quiet_on | (refine ⟨_, fun _ => rfl, ?_⟩; go_big_quiet_on) | go_big_quiet_call (first | fail)))
          refine wpQuiet_nil ?_
          rintro _ ⟨y, rfl⟩
          clear m1 j5 f1 f2 u0
          subst ev
          go_wp2
          go_ret
          exact ⟨rfl, BW.out _ (WIN.out y)⟩
        have n5 : ¬ u < 0 := by omega
        rw [decide_eq_true q4, Bool.true_and] at RB
        clear q4
        by_cases q5 : u ≤ (m.cs.length : Int) - f.ce
        case neg =>
          have n6 : (m.cs.length : Int) - f.ce < u := by omega
          have ev : VV = false := BAD.out (by rw [RB.out, decide_eq_false q5])
          clear q5
          refine wp_region_sub2 (by kernel_rfl) (by kernel_rfl) ?_
          intro cx
          clear cx
          repeat (first | go_big_quiet_skip | (go_big_quiet_want; go_big_quiet_op; first | go_big_quiet_on | (refine ⟨_, fun _ => rfl, ?_⟩; go_big_quiet_on) | go_big_quiet_call (first | fail)))
          refine wpQuiet_nil ?_
          rintro _ ⟨y, rfl⟩
          clear m1 j5 f1 f2 u0
          subst ev
          go_wp2
          go_ret
          exact ⟨rfl, BW.out _ (WIN.out y)⟩
        have n6 : ¬ (m.cs.length : Int) - f.ce < u := by omega
        rw [decide_eq_true q5] at RB
        clear q5
        refine wp_region_sub2 (by kernel_rfl) (by kernel_rfl) ?_
        intro cx
        clear cx
        repeat (first | go_big_quiet_skip | (go_big_quiet_want; go_big_quiet_op; first | go_big_quiet_on | (refine ⟨_, fun _ => rfl, ?_⟩; go_big_quiet_on) | go_big_quiet_call (first | fail)))
        refine wpQuiet_nil ?_
        rintro _ ⟨y, rfl⟩
        clear m1 j5 f1 f2 u0
        have ew : wrap64 ((k : Int) + 1) = (k : Int) + 1 := by have := Q2.out; have := LT.out; unfold wrap64; omega
        go_wp2
        try rw [ew]
        exact ⟨⟨k + 1, Nat.succ_le_of_lt LT.out, rfl, BW.out _ (WIN.out y), (CB.out _ (WIN.out y)).1, (CB.out _ (WIN.out y)).2, NXT.out RB.out⟩, msr LT.out⟩
      · have kl : ¬ (k : Int) < s.cs.length := by omega
        have ev : VV = true := HV.out.symm.trans (rn_all Q1.out Q2.out (fun i hi => AL.out i (by omega)))
        subst ev
        clear hbw hlt hx hy
        go_wp2
        go_ret
        exact ⟨rfl, HW.out⟩
end Go.Proofs.YtdcjngakmkgbmaaGreat
