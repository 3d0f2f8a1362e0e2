/- The document's image: may a cell be; no statement of the seat is proved here. -/
import Derived.Test.YtdcjngakmkgbmaaGreatKoB5
import Derived.Deep.DeepCutAuto
import Derived.Deep.RegionHeld3
namespace Go.Proofs.YtdcjngakmkgbmaaGreat
set_option linter.unusedVariables false
open Go.RowKit
set_option maxRecDepth 20000 in
set_option maxHeartbeats 8000000 in
theorem cellR_a (l : List CeR) (x : Option Addr) (p i : Nat) (w : World) {S : Nat → Prop} (hS : ∀ b, S b → b < w.heap.size) (ha : RwF 11 (Is ceC) S w x l) (ho : ∀ c ∈ l, CeOk c) (hi : i < l.length) (hk : ∀ c, l[i]? = some c → c.kd = 20) :
    Calls Tryz.prog 38 #[.slice x l.length p, .int .i64 i] w fun e w' => e = .returned (.bool (ceAt l i)) ∧ Below w.heap.size w w' := by
  have HK : Hid (∀ c, l[i]? = some c → c.kd = 20) := hk
  clear hk
  have HA : Hid (RwF 11 (Is ceC) S w x l) := ha
  have HS : Hid (∀ b, S b → b < w.heap.size) := hS
  have LT : Hid (i < l.length) := hi
  obtain ⟨a, rfl⟩ := ha.some (by omega)
  obtain ⟨s, sv, se, _, rfl, sk⟩ := ha.el i hi
  have e0 := sk.c0
  have e1 := sk.cp 0 _ rfl
  have e2 := sk.cp 1 _ rfl
  have e3 := sk.cp 2 _ rfl
  have e4 := sk.cp 3 _ rfl
  have e5 := sk.cp 4 _ rfl
  have e6 := sk.cp 5 _ rfl
  have e7 := sk.cp 6 _ rfl
  have e8 := sk.cp 7 _ rfl
  have e9 := sk.cp 8 _ rfl
  have e10 := sk.cp 9 _ rfl
  have ES : Hid (l[i]? = some s) := se
  obtain ⟨h1, h2, h3, h4, h5, h6, h7, h8, h9⟩ := ho s (List.mem_of_getElem? se)
  have g1 := wf_u8 h1
  have g2 := wf_i64 h2
  have g3 := wf_i64 h3
  have g5 := wf_u8 h5
  have g6 := wf_u64 h6
  have g7 := sh_max h7
  have g9 := sh_max h9
  have TY : Hid (∀ W, Calls Tryz.prog 80 #[CeV s] W fun e w' => e = .returned (.agg #[.int .u8 s.kd, .bool s.sb, .int .i64 s.lo, .int .i64 s.hi, .int .i64 s.mx, .bool false, .int .i64 0, .int .i64 0, .string ⟨#[]⟩]) ∧ Below W.heap.size W w') := fun W => typedR_of s W
  have FT : Hid (∀ W, Calls Tryz.prog 79 #[.agg #[.int .u8 s.kd, .bool s.sb, .int .i64 s.lo, .int .i64 s.hi, .int .i64 s.mx, .bool false, .int .i64 0, .int .i64 0, .string ⟨#[]⟩], .agg #[.int .u8 s.ik, .int .u64 s.ib, .string s.is]] W fun e w' => e = .returned (.int .i64 (fitsF s.ik s.ib s.is s.kd s.sb s.lo s.hi s.mx)) ∧ Below W.heap.size W w') := fun W => FitsR_of s.kd s.sb s.lo s.hi s.mx false 0 0 ⟨#[]⟩ s.ik s.ib s.is W g6.1 g6.2 g5 g7 g2 g3
  have IA : Hid (∀ W, Calls Tryz.prog 81 #[.string s.ad] W fun e w' => e = .returned (addrV s.ad) ∧ Below W.heap.size W w') := fun W => IsAddrR_of s.ad W g9
  have WD0 : Hid (1 ≤ s.kd ∧ s.kd ≤ 20 → ∀ W, Calls Tryz.prog 82 #[.int .u8 s.kd] W fun e w' => e = .returned (.int .i64 (wdK s.kd)) ∧ w' = W) := fun h W => widthR4_of s.kd h W
  have il : (i : Int) < l.length := by omega
  have za := block_lt_of_cell e0
  clear h1 h2 h3 h4 h5 h6 h7 h8 h9 g1 g2 g3 g5 g6 g7 g9 ha hS ho hi se sk
  generalize hv : ceAt l i = VV
  have HV : Hid (ceAt l i = VV) := hv
  clear hv
  obtain ⟨AR, eR⟩ : ∃ AR, AR = w.alloc (.cells #[.int .u8 s.kd, .bool s.sb, .int .i64 s.lo, .int .i64 s.hi, .int .i64 s.mx, .int .u8 s.ik, .int .u64 s.ib, .string s.is, .bool s.kp, .int .i64 s.dr, .string s.ad] 40 (0, 0)) := ⟨_, rfl⟩
  have AB : Hid (Below w.heap.size w AR) := by rw [eR]; exact (Below.refl _ _).alloc (Nat.le_refl _) _
  have AX : Hid (AR.heap[w.heap.size]? = some (.cells #[.int .u8 s.kd, .bool s.sb, .int .i64 s.lo, .int .i64 s.hi, .int .i64 s.mx, .int .u8 s.ik, .int .u64 s.ib, .string s.is, .bool s.kp, .int .i64 s.dr, .string s.ad] 40 (0, 0))) := by rw [eR]; exact heap_alloc_last _ _
  go_enter Tryz.func38, Tryz.ntmps38
  go_upto_region 2 with fail
  rw [← eR]
  clear eR e0 e1 e2 e3 e4 e5 e6 e7 e8 e9 e10 za
  have k0 : AR.cell? ⟨w.heap.size, 0, none⟩ = some (.int .u8 s.kd) := by simp [World.cell?, AX.out]
  have k1 : AR.cell? ⟨w.heap.size, 1, none⟩ = some (.bool s.sb) := by simp [World.cell?, AX.out]
  have k2 : AR.cell? ⟨w.heap.size, 2, none⟩ = some (.int .i64 s.lo) := by simp [World.cell?, AX.out]
  have k3 : AR.cell? ⟨w.heap.size, 3, none⟩ = some (.int .i64 s.hi) := by simp [World.cell?, AX.out]
  have k4 : AR.cell? ⟨w.heap.size, 4, none⟩ = some (.int .i64 s.mx) := by simp [World.cell?, AX.out]
  have k5 : AR.cell? ⟨w.heap.size, 5, none⟩ = some (.int .u8 s.ik) := by simp [World.cell?, AX.out]
  have k6 : AR.cell? ⟨w.heap.size, 6, none⟩ = some (.int .u64 s.ib) := by simp [World.cell?, AX.out]
  have k7 : AR.cell? ⟨w.heap.size, 7, none⟩ = some (.string s.is) := by simp [World.cell?, AX.out]
  have k8 : AR.cell? ⟨w.heap.size, 8, none⟩ = some (.bool s.kp) := by simp [World.cell?, AX.out]
  have k9 : AR.cell? ⟨w.heap.size, 9, none⟩ = some (.int .i64 s.dr) := by simp [World.cell?, AX.out]
  have k10 : AR.cell? ⟨w.heap.size, 10, none⟩ = some (.string s.ad) := by simp [World.cell?, AX.out]
  go_cut [6] (fun s6 wx => s6 = .bool (inB 2 9 s.kd) ∧ wx = AR)
  case first =>
    by_cases a1 : 2 ≤ s.kd
    · by_cases a2 : s.kd ≤ 9
      · go_wp2_with fail
        go_meet
        case rel => exact ⟨by unfold inB; rw [decide_eq_true a1, decide_eq_true a2]; rfl, rfl⟩
      · go_wp2_with fail
        go_meet
        case rel => exact ⟨by unfold inB; rw [decide_eq_true a1, decide_eq_false (show ¬ s.kd ≤ 9 by omega)]; rfl, rfl⟩
    · go_wp2_with fail
      go_meet
      case rel => exact ⟨by unfold inB; rw [decide_eq_false (show ¬ 2 ≤ s.kd by omega)]; rfl, rfl⟩
  case rest =>
    obtain ⟨rfl, hc⟩ := hcut
    rw [hc]
    clear hc wc
    generalize hwh : inB 2 9 s.kd = wh
    have WH : Hid (inB 2 9 s.kd = wh) := hwh
    clear hwh
    go_upto_region 3 with fail
    go_cut [60] (fun s60 wx => s60 = .bool (!(c1B s.kd s.sb s.lo s.hi)) ∧ wx = AR)
    case first =>
      by_cases a1 : 1 ≤ s.kd
      case neg =>
        have a2 : s.kd < 1 := by omega
        go_wp2_with fail
        go_meet
        case rel => exact ⟨by rw [show c1B s.kd s.sb s.lo s.hi = false by unfold c1B; apply decide_eq_false; rintro ⟨h1, h2, h3⟩; first | omega | (have := h2 (by first | rfl | assumption); omega) | (have := h3 (by first | rfl | assumption); omega)]; first | rfl | (simp; omega), rfl⟩
      by_cases a2 : s.kd ≤ 20
      case neg =>
        go_wp2_with fail
        go_meet
        case rel => exact ⟨by rw [show c1B s.kd s.sb s.lo s.hi = false by unfold c1B; apply decide_eq_false; rintro ⟨h1, h2, h3⟩; first | omega | (have := h2 (by first | rfl | assumption); omega) | (have := h3 (by first | rfl | assumption); omega)]; first | rfl | (simp; omega), rfl⟩
      cases hsb : s.sb
      · rw [hsb] at k1
        by_cases b1 : s.lo ≤ s.hi
        case neg =>
          go_wp2_with fail
          go_meet
          case rel => exact ⟨by rw [show c1B s.kd s.sb s.lo s.hi = false by unfold c1B; rw [hsb]; apply decide_eq_false; rintro ⟨h1, h2, h3⟩; first | omega | (have := h2 (by first | rfl | assumption); omega) | (have := h3 (by first | rfl | assumption); omega)]; first | rfl | (simp; omega), rfl⟩
        by_cases b2 : s.lo = 0
        case neg =>
          have b3 : (s.lo == 0) = false := by simp [b2]
          have b4 : (s.lo != 0) = true := by simp [b2]
          go_wp2_with fail
          go_meet
          case rel => exact ⟨by rw [show c1B s.kd s.sb s.lo s.hi = false by unfold c1B; rw [hsb]; apply decide_eq_false; rintro ⟨h1, h2, h3⟩; first | omega | (have := h2 (by first | rfl | assumption); omega) | (have := h3 (by first | rfl | assumption); omega)]; first | rfl | (simp; omega), rfl⟩
        have b3 : (s.lo == 0) = true := by simp [b2]
        have b4 : (s.lo != 0) = false := by simp [b2]
        by_cases b5 : s.hi = 0
        case neg =>
          have b6 : (s.hi == 0) = false := by simp [b5]
          have b7 : (s.hi != 0) = true := by simp [b5]
          go_wp2_with fail
          go_meet
          case rel => exact ⟨by rw [show c1B s.kd s.sb s.lo s.hi = false by unfold c1B; rw [hsb]; apply decide_eq_false; rintro ⟨h1, h2, h3⟩; first | omega | (have := h2 (by first | rfl | assumption); omega) | (have := h3 (by first | rfl | assumption); omega)]; first | rfl | (simp; omega), rfl⟩
        have b6 : (s.hi == 0) = true := by simp [b5]
        have b7 : (s.hi != 0) = false := by simp [b5]
        go_wp2_with fail
        go_meet
        case rel => exact ⟨by rw [show c1B s.kd s.sb s.lo s.hi = true by unfold c1B; rw [hsb]; apply decide_eq_true; refine ⟨by omega, fun h => ?_, fun h => ?_⟩ <;> first | (cases h; done) | omega]; first | rfl | (simp; omega), rfl⟩
      · rw [hsb] at k1
        have iv : decide (2 ≤ s.kd ∧ s.kd ≤ 9) = wh := (inB_d _ _ _).symm.trans WH.out
        cases wh
        · have b0 : ¬ (2 ≤ s.kd ∧ s.kd ≤ 9) := of_decide_eq_false iv
          clear iv
          go_wp2_with fail
          go_meet
          case rel => exact ⟨by rw [show c1B s.kd s.sb s.lo s.hi = false by unfold c1B; rw [hsb]; apply decide_eq_false; rintro ⟨h1, h2, h3⟩; first | omega | (have := h2 (by first | rfl | assumption); omega) | (have := h3 (by first | rfl | assumption); omega)]; first | rfl | (simp; omega), rfl⟩
        · have b0 : 2 ≤ s.kd ∧ s.kd ≤ 9 := of_decide_eq_true iv
          clear iv
          by_cases b1 : s.lo ≤ s.hi
          case neg =>
            go_wp2_with fail
            go_meet
            case rel => exact ⟨by rw [show c1B s.kd s.sb s.lo s.hi = false by unfold c1B; rw [hsb]; apply decide_eq_false; rintro ⟨h1, h2, h3⟩; first | omega | (have := h2 (by first | rfl | assumption); omega) | (have := h3 (by first | rfl | assumption); omega)]; first | rfl | (simp; omega), rfl⟩
          go_wp2_with fail
          go_meet
          case rel => exact ⟨by rw [show c1B s.kd s.sb s.lo s.hi = true by unfold c1B; rw [hsb]; apply decide_eq_true; refine ⟨by omega, fun h => ?_, fun h => ?_⟩ <;> first | (cases h; done) | omega]; first | rfl | (simp; omega), rfl⟩
    case rest =>
      obtain ⟨rfl, hc⟩ := hcut
      rw [hc]
      clear hc wc
      generalize hc1 : c1B s.kd s.sb s.lo s.hi = cc at *
      have HC1 : Hid (c1B s.kd s.sb s.lo s.hi = cc) := hc1
      clear hc1
      cases cc
      case false =>
        have ev : VV = false := HV.out.symm.trans (by rw [ceAt_k ES.out, ce_c1 HC1.out, Bool.false_and])
        subst ev
        go_wp2
        go_ret
        exact ⟨rfl, AB.out⟩
      have KD : 1 ≤ s.kd ∧ s.kd ≤ 20 := by have h := HC1.out; unfold c1B at h; exact (of_decide_eq_true h).1
      have WD : Hid _ := WD0.out KD
      clear WD0 KD
      go_upto_region 5 with fail
      go_cut [86] (fun s86 wx => s86 = .bool (!(c2B s.kd s.mx s.ik)) ∧ wx = AR)
      case first =>
        by_cases b1 : 0 ≤ s.mx
        case neg =>
          go_wp2_with fail
          go_meet
          case rel => exact ⟨by rw [show c2B s.kd s.mx s.ik = false by unfold c2B; apply decide_eq_false; rintro ⟨h1, h2, h3⟩; first | omega | (have := h2 (by first | rfl | assumption); omega) | (have := h3 (by first | rfl | assumption); omega)]; first | rfl | (simp; omega), rfl⟩
        by_cases b2 : s.mx ≤ 254
        case neg =>
          go_wp2_with fail
          go_meet
          case rel => exact ⟨by rw [show c2B s.kd s.mx s.ik = false by unfold c2B; apply decide_eq_false; rintro ⟨h1, h2, h3⟩; first | omega | (have := h2 (by first | rfl | assumption); omega) | (have := h3 (by first | rfl | assumption); omega)]; first | rfl | (simp; omega), rfl⟩
        by_cases b3 : s.kd = 19
        · have b4 : (s.kd == 19) = true := by simp [b3]
          have b5 : (s.kd != 19) = false := by simp [b3]
          have B3 : Hid (s.kd = 19) := b3
          clear b3
          by_cases b6 : s.ik = s.kd
          · have b7 : (s.ik == s.kd) = true := by simp [b6]
            have b8 : (s.ik != s.kd) = false := by simp [b6]
            have B6 : Hid (s.ik = s.kd) := b6
            clear b6
            go_wp2_with fail
            go_meet
            case rel => exact ⟨by rw [show c2B s.kd s.mx s.ik = true by unfold c2B; exact decide_eq_true ⟨B6.out, fun _ => by omega, fun h => absurd B3.out h⟩]; first | rfl | (simp; omega), rfl⟩
          · have b7 : (s.ik == s.kd) = false := by simp [b6]
            have b8 : (s.ik != s.kd) = true := by simp [b6]
            have B6 : Hid (¬ s.ik = s.kd) := b6
            clear b6
            go_wp2_with fail
            go_meet
            case rel => exact ⟨by rw [show c2B s.kd s.mx s.ik = false by unfold c2B; exact decide_eq_false (fun h => B6.out h.1)]; first | rfl | (simp; omega), rfl⟩
        · have b4 : (s.kd == 19) = false := by simp [b3]
          have b5 : (s.kd != 19) = true := by simp [b3]
          have B3 : Hid (¬ s.kd = 19) := b3
          clear b3
          by_cases b9 : s.mx = 0
          case neg =>
            have c4 : (s.mx == 0) = false := by simp [b9]
            have c5 : (s.mx != 0) = true := by simp [b9]
            have B9 : Hid (¬ s.mx = 0) := b9
            clear b9
            go_wp2_with fail
            go_meet
            case rel => exact ⟨by rw [show c2B s.kd s.mx s.ik = false by unfold c2B; exact decide_eq_false (fun h => B9.out (h.2.2 B3.out))]; first | rfl | (simp; omega), rfl⟩
          have c4 : (s.mx == 0) = true := by simp [b9]
          have c5 : (s.mx != 0) = false := by simp [b9]
          have B9 : Hid (s.mx = 0) := b9
          clear b9
          by_cases b6 : s.ik = s.kd
          · have b7 : (s.ik == s.kd) = true := by simp [b6]
            have b8 : (s.ik != s.kd) = false := by simp [b6]
            have B6 : Hid (s.ik = s.kd) := b6
            clear b6
            go_wp2_with fail
            go_meet
            case rel => exact ⟨by rw [show c2B s.kd s.mx s.ik = true by unfold c2B; exact decide_eq_true ⟨B6.out, fun h => absurd h B3.out, fun _ => B9.out⟩]; first | rfl | (simp; omega), rfl⟩
          · have b7 : (s.ik == s.kd) = false := by simp [b6]
            have b8 : (s.ik != s.kd) = true := by simp [b6]
            have B6 : Hid (¬ s.ik = s.kd) := b6
            clear b6
            go_wp2_with fail
            go_meet
            case rel => exact ⟨by rw [show c2B s.kd s.mx s.ik = false by unfold c2B; exact decide_eq_false (fun h => B6.out h.1)]; first | rfl | (simp; omega), rfl⟩
      case rest =>
        obtain ⟨rfl, hc⟩ := hcut
        rw [hc]
        clear hc wc
        generalize hc2 : c2B s.kd s.mx s.ik = cc at *
        have HC2 : Hid (c2B s.kd s.mx s.ik = cc) := hc2
        clear hc2
        cases cc
        case false =>
          have ev : VV = false := HV.out.symm.trans (by rw [ceAt_k ES.out, ce_c2 HC2.out, Bool.false_and])
          subst ev
          go_wp2
          go_ret
          exact ⟨rfl, AB.out⟩
        clear k0 k1 k2 k3 k4 k5 k6 k7 k8 k9 k10
        have q20 : s.kd = 20 := HK.out s ES.out
        clear HK
        have n1 : (s.kd == 20) = true := by simp [q20]
        have Q20 : Hid (s.kd = 20) := q20
        clear q20
        have k0 : AR.cell? ⟨w.heap.size, 0, none⟩ = some (.int .u8 s.kd) := by simp [World.cell?, AX.out]
        have k1 : AR.cell? ⟨w.heap.size, 1, none⟩ = some (.bool s.sb) := by simp [World.cell?, AX.out]
        have k2 : AR.cell? ⟨w.heap.size, 2, none⟩ = some (.int .i64 s.lo) := by simp [World.cell?, AX.out]
        have k3 : AR.cell? ⟨w.heap.size, 3, none⟩ = some (.int .i64 s.hi) := by simp [World.cell?, AX.out]
        have k4 : AR.cell? ⟨w.heap.size, 4, none⟩ = some (.int .i64 s.mx) := by simp [World.cell?, AX.out]
        have k5 : AR.cell? ⟨w.heap.size, 5, none⟩ = some (.int .u8 s.ik) := by simp [World.cell?, AX.out]
        have k6 : AR.cell? ⟨w.heap.size, 6, none⟩ = some (.int .u64 s.ib) := by simp [World.cell?, AX.out]
        have k7 : AR.cell? ⟨w.heap.size, 7, none⟩ = some (.string s.is) := by simp [World.cell?, AX.out]
        have k8 : AR.cell? ⟨w.heap.size, 8, none⟩ = some (.bool s.kp) := by simp [World.cell?, AX.out]
        have k9 : AR.cell? ⟨w.heap.size, 9, none⟩ = some (.int .i64 s.dr) := by simp [World.cell?, AX.out]
        have k10 : AR.cell? ⟨w.heap.size, 10, none⟩ = some (.string s.ad) := by simp [World.cell?, AX.out]
        by_cases i1 : s.ib = 0
        case neg =>
          have i2 : (s.ib == 0) = false := by simp [i1]
          have i3 : (s.ib != 0) = true := by simp [i1]
          have ev : VV = false := HV.out.symm.trans (by rw [ceAt_k ES.out, ce_ref Q20.out (fun h => i1 h.1), Bool.false_and])
          subst ev
          clear i1
          go_wp2
          go_ret
          exact ⟨rfl, AB.out⟩
        have i2 : (s.ib == 0) = true := by simp [i1]
        have i3 : (s.ib != 0) = false := by simp [i1]
        have I1 : Hid (s.ib = 0) := i1
        clear i1
        cases qi : emB s.is
        case false =>
          have i4 : s.is.toList.isEmpty = false := qi
          have ev : VV = false := HV.out.symm.trans (by rw [ceAt_k ES.out, ce_ref Q20.out (fun h => by rw [qi] at h; exact Bool.false_ne_true h.2.1), Bool.false_and])
          subst ev
          clear qi
          go_wp2
          go_ret
          exact ⟨rfl, AB.out⟩
        have i4 : s.is.toList.isEmpty = true := qi
        have I4 : Hid (emB s.is = true) := qi
        clear qi
        cases qk : s.kp
        case true =>
          have ev : VV = false := HV.out.symm.trans (by rw [ceAt_k ES.out, ce_ref Q20.out (fun h => by rw [qk] at h; exact Bool.false_ne_true h.2.2.symm), Bool.false_and])
          subst ev
          rw [qk] at k8
          clear qk
          go_wp2
          go_ret
          exact ⟨rfl, AB.out⟩
        have CE : Hid (ceB s = liB s) := ce_on HC1.out HC2.out (fun _ => ⟨I1.out, I4.out, qk⟩) (fun h => absurd Q20.out h)
        rw [qk] at k8
        clear qk
        go_upto_region 12 with fail
        clear k0 k1 k2 k3 k4 k5 k6 k7 k8 k9 k10 i2 i3 i4
        have CL : Hid (ceAt l i = (liB s && (emB s.ad || (l.take i).all (fun x => decide (¬ x.ad = s.ad))))) := by show _ = _; rw [ceAt_k ES.out, CE.out]
        unfold liB at CL
        have k0 : AR.cell? ⟨w.heap.size, 0, none⟩ = some (.int .u8 s.kd) := by simp [World.cell?, AX.out]
        have k1 : AR.cell? ⟨w.heap.size, 1, none⟩ = some (.bool s.sb) := by simp [World.cell?, AX.out]
        have k2 : AR.cell? ⟨w.heap.size, 2, none⟩ = some (.int .i64 s.lo) := by simp [World.cell?, AX.out]
        have k3 : AR.cell? ⟨w.heap.size, 3, none⟩ = some (.int .i64 s.hi) := by simp [World.cell?, AX.out]
        have k4 : AR.cell? ⟨w.heap.size, 4, none⟩ = some (.int .i64 s.mx) := by simp [World.cell?, AX.out]
        have k5 : AR.cell? ⟨w.heap.size, 5, none⟩ = some (.int .u8 s.ik) := by simp [World.cell?, AX.out]
        have k6 : AR.cell? ⟨w.heap.size, 6, none⟩ = some (.int .u64 s.ib) := by simp [World.cell?, AX.out]
        have k7 : AR.cell? ⟨w.heap.size, 7, none⟩ = some (.string s.is) := by simp [World.cell?, AX.out]
        have k8 : AR.cell? ⟨w.heap.size, 8, none⟩ = some (.bool s.kp) := by simp [World.cell?, AX.out]
        have k9 : AR.cell? ⟨w.heap.size, 9, none⟩ = some (.int .i64 s.dr) := by simp [World.cell?, AX.out]
        have k10 : AR.cell? ⟨w.heap.size, 10, none⟩ = some (.string s.ad) := by simp [World.cell?, AX.out]
        by_cases d1 : 0 ≤ s.dr
        case neg =>
          have ev : VV = false := HV.out.symm.trans (by rw [CL.out]; unfold inB; rw [decide_eq_false d1]; rfl)
          subst ev
          go_wp2
          go_ret
          exact ⟨rfl, AB.out⟩
        by_cases d2 : s.dr ≤ 2
        case neg =>
          have ev : VV = false := HV.out.symm.trans (by rw [CL.out]; unfold inB; rw [decide_eq_false d2, Bool.and_false]; rfl)
          subst ev
          go_wp2
          go_ret
          exact ⟨rfl, AB.out⟩
        rw [show inB 0 2 s.dr = true by unfold inB; rw [decide_eq_true d1, decide_eq_true d2]; rfl, Bool.true_and] at CL
        cases qe : emB s.ad
        case true =>
          have q1 : s.ad.toList.isEmpty = true := qe
          rw [qe, if_pos rfl, Bool.true_or, Bool.and_true] at CL
          clear qe
          by_cases d0 : s.dr = 0
          · have d3 : (s.dr == 0) = true := by simp [d0]
            have ev : VV = true := HV.out.symm.trans (by rw [CL.out, decide_eq_true d0])
            subst ev
            go_wp2
            go_ret
            exact ⟨by simp, AB.out⟩
          · have d3 : (s.dr == 0) = false := by simp [d0]
            have ev : VV = false := HV.out.symm.trans (by rw [CL.out, decide_eq_false d0])
            subst ev
            go_wp2
            go_ret
            exact ⟨by simp, AB.out⟩
        have q1 : s.ad.toList.isEmpty = false := qe
        rw [qe, if_neg (by simp), Bool.false_or] at CL
        clear qe
        unfold adB at CL
        unfold addrV at IA
        go_upto_region 16 with fail
        generalize addrB s.ad = ra at *
        generalize dirN (byt s.ad 1) = D at *
        generalize bitN (byt s.ad 2) = N at *
        generalize wdK s.kd = wk at *
        go_wp2_with fail
        refine (IA.out _).mono ?_
        rintro e v5 ⟨rfl, hb5⟩
        have B5 : Hid (Below w.heap.size w v5) := AB.out.trans (hb5.mono AB.out.size)
        have X5 : Hid (v5.heap[w.heap.size]? = some (.cells #[.int .u8 s.kd, .bool s.sb, .int .i64 s.lo, .int .i64 s.hi, .int .i64 s.mx, .int .u8 s.ik, .int .u64 s.ib, .string s.is, .bool s.kp, .int .i64 s.dr, .string s.ad] 40 (0, 0))) := (hb5.block _ (blk_in AX.out)).trans AX.out
        clear hb5 k0 k1 k2 k3 k4 k5 k6 k7 k8 k9 k10
        have k0 : v5.cell? ⟨w.heap.size, 0, none⟩ = some (.int .u8 s.kd) := by simp [World.cell?, X5.out]
        have k1 : v5.cell? ⟨w.heap.size, 1, none⟩ = some (.bool s.sb) := by simp [World.cell?, X5.out]
        have k2 : v5.cell? ⟨w.heap.size, 2, none⟩ = some (.int .i64 s.lo) := by simp [World.cell?, X5.out]
        have k3 : v5.cell? ⟨w.heap.size, 3, none⟩ = some (.int .i64 s.hi) := by simp [World.cell?, X5.out]
        have k4 : v5.cell? ⟨w.heap.size, 4, none⟩ = some (.int .i64 s.mx) := by simp [World.cell?, X5.out]
        have k5 : v5.cell? ⟨w.heap.size, 5, none⟩ = some (.int .u8 s.ik) := by simp [World.cell?, X5.out]
        have k6 : v5.cell? ⟨w.heap.size, 6, none⟩ = some (.int .u64 s.ib) := by simp [World.cell?, X5.out]
        have k7 : v5.cell? ⟨w.heap.size, 7, none⟩ = some (.string s.is) := by simp [World.cell?, X5.out]
        have k8 : v5.cell? ⟨w.heap.size, 8, none⟩ = some (.bool s.kp) := by simp [World.cell?, X5.out]
        have k9 : v5.cell? ⟨w.heap.size, 9, none⟩ = some (.int .i64 s.dr) := by simp [World.cell?, X5.out]
        have k10 : v5.cell? ⟨w.heap.size, 10, none⟩ = some (.string s.ad) := by simp [World.cell?, X5.out]
        cases ra
        case false =>
          have ev : VV = false := HV.out.symm.trans (by rw [CL.out]; rfl)
          subst ev
          simp only [if_neg Bool.false_ne_true]
          go_wp2
          go_ret
          exact ⟨rfl, B5.out⟩
        simp only [if_true]
        rw [Bool.true_and] at CL
        by_cases e1 : D = s.dr
        case neg =>
          have e2 : (D == s.dr) = false := by simp [e1]
          have e3 : (D != s.dr) = true := by simp [e1]
          have ev : VV = false := HV.out.symm.trans (by rw [CL.out, decide_eq_false e1]; rfl)
          subst ev
          clear e1
          go_wp2
          go_ret
          exact ⟨rfl, B5.out⟩
        have e2 : (D == s.dr) = true := by simp [e1]
        have e3 : (D != s.dr) = false := by simp [e1]
        rw [decide_eq_true e1, Bool.true_and] at CL
        clear e1
        by_cases f1 : N = wk
        case neg =>
          have f2 : (N == wk) = false := by simp [f1]
          have f3 : (N != wk) = true := by simp [f1]
          have ev : VV = false := HV.out.symm.trans (by rw [CL.out, decide_eq_false f1]; rfl)
          subst ev
          clear f1
          go_wp2_with fail
          refine (WD.out _).mono ?_
          rintro e wN ⟨rfl, hN⟩
          rw [hN]
          clear hN wN
          go_wp2
          go_ret
          exact ⟨rfl, B5.out⟩
        have f2 : (N == wk) = true := by simp [f1]
        have f3 : (N != wk) = false := by simp [f1]
        rw [decide_eq_true f1, Bool.true_and] at CL
        clear f1
        go_wp2_with fail
        refine (WD.out _).mono ?_
        rintro e wN ⟨rfl, hN⟩
        rw [hN]
        clear hN wN
        generalize hsb : s.sb = sb at *
        cases sb
        case true =>
          have ev : VV = false := HV.out.symm.trans (by rw [CL.out]; rfl)
          subst ev
          go_wp2
          go_ret
          exact ⟨rfl, B5.out⟩
        rw [Bool.not_false, Bool.true_and] at CL
        go_wp2_with fail
        clear k0 k1 k2 k3 k4 k5 k6 k7 k8 k9 k10
        go_loopw [10] (fun t wr => ∃ k : Nat, k ≤ i ∧ t = .int .i64 k ∧ Below w.heap.size w wr ∧ wr.heap[w.heap.size]? = some (.cells #[.int .u8 s.kd, .bool false, .int .i64 s.lo, .int .i64 s.hi, .int .i64 s.mx, .int .u8 s.ik, .int .u64 s.ib, .string s.is, .bool s.kp, .int .i64 s.dr, .string s.ad] 40 (0, 0)) ∧ ∀ (j : Nat) c, j < k → l[j]? = some c → ¬ c.ad = s.ad) (fun t _ => i - (intOf t).toNat)
        case atStart => exact ⟨0, Nat.zero_le _, rfl, B5.out, X5.out, fun j c hj => absurd hj (Nat.not_lt_zero _)⟩
        case round =>
          obtain ⟨k, hk, rfl, hbw, hx, hall⟩ := hrel
          have HW : Hid (Below w.heap.size w wr) := hbw
          have HX : Hid (wr.heap[w.heap.size]? = some (.cells #[.int .u8 s.kd, .bool false, .int .i64 s.lo, .int .i64 s.hi, .int .i64 s.mx, .int .u8 s.ik, .int .u64 s.ib, .string s.is, .bool s.kp, .int .i64 s.dr, .string s.ad] 40 (0, 0))) := hx
          have AL : Hid (∀ (j : Nat) c, j < k → l[j]? = some c → ¬ c.ad = s.ad) := hall
          clear hbw hx hall
          by_cases hlt : k < i
          · have kI : (k : Int) < i := by omega
            have kL : (k : Int) < l.length := by have := LT.out; omega
            obtain ⟨t, tv, te, tb, rfl, tk⟩ := HA.out.el k (by have := LT.out; omega)
            have tc := tk.cp 9 _ rfl
            have TE : Hid (l[k]? = some t) := te
            have KI : Hid (k < i) := hlt
            have u0 : ∀ n : Nat, (wr.drewN n).cell? ⟨(a.add (k * 11)).block, (a.add (k * 11)).off + (9 + 1), none⟩ = some (.string t.ad) := fun n => (HW.out.cell (p := ⟨(a.add (k * 11)).block, (a.add (k * 11)).off + (9 + 1), none⟩) (by show (a.add (k * 11)).block < _; rw [add_block]; exact HS.out _ tb)).trans tc
            have u1 : wr.cell? ⟨(a.add (k * 11)).block, (a.add (k * 11)).off + (9 + 1), none⟩ = some (.string t.ad) := u0 0
            have u2 : wr.cell? ⟨w.heap.size, 10, none⟩ = some (.string s.ad) := by simp [World.cell?, HX.out]
            clear te tb tk tc hlt u0
            have ew : wrap64 ((k : Int) + 1) = (k : Int) + 1 := by have := HA.out.1; have := LT.out; have := KI.out; unfold wrap64; omega
            go_wp2_with fail
            by_cases g1 : t.ad = s.ad
            · have g2 : (t.ad.toList == s.ad.toList) = true := by rw [g1]; simp
              have ev : VV = false := HV.out.symm.trans (by rw [CL.out, List.all_eq_false]; exact ⟨t, List.mem_take_iff_getElem.2 (by obtain ⟨hl, he⟩ := List.getElem?_eq_some_iff.1 TE.out; exact ⟨k, by have := KI.out; omega, he⟩), by simp [g1]⟩)
              subst ev
              clear g1
              go_quiet (fail)
              go_wp2
              go_ret
              exact ⟨rfl, bdN HW.out _⟩
            · have g2 : (t.ad.toList == s.ad.toList) = false := by
                rw [beq_eq_false_iff_ne]
                intro q
                exact g1 (ByteArray.ext (Array.toList_inj.1 (by simpa [ByteArray.toList_eq] using q)))
              have G1 : Hid (¬ t.ad = s.ad) := g1
              clear g1
              go_quiet (fail)
              go_wp2
              try rw [ew]
              exact ⟨⟨k + 1, Nat.succ_le_of_lt KI.out, rfl, bdN HW.out _, HX.out, fun j c hj hc => by
                rcases Nat.lt_succ_iff_lt_or_eq.1 hj with h | rfl
                · exact AL.out j c h hc
                · rw [TE.out] at hc; cases hc; exact G1.out⟩, msr KI.out⟩
          · have kI : ¬ (k : Int) < i := by omega
            have ev : VV = true := HV.out.symm.trans (by
              rw [CL.out, List.all_eq_true]
              intro c hc
              obtain ⟨j, hj, he⟩ := List.mem_take_iff_getElem.1 hc
              simp only [decide_eq_true_eq]
              exact AL.out j c (by omega) (List.getElem?_eq_some_iff.2 ⟨_, he⟩))
            subst ev
            clear hlt
            go_wp2
            go_ret
            exact ⟨rfl, HW.out⟩
end Go.Proofs.YtdcjngakmkgbmaaGreat
