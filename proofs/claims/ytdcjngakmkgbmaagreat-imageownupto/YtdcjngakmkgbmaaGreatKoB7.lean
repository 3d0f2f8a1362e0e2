/- image: bytes as an image, told with its rooms; no statement of the seat is proved here. -/
import Derived.Test.YtdcjngakmkgbmaaGreatKoB4
import Derived.Test.YtdcjngakmkgbmaaGreatKoB2
import Derived.Test.YtdcjngakmkgbmaaGreatKoB6
import Derived.Test.YtdcjngakmkgbmaaGreatCrHbK
import Derived.Test.YtdcjngakmkgbmaaGreatCrHcK
import Derived.Test.YtdcjngakmkgbmaaGreatKoA2
import Derived.Test.YtdcjngakmkgbmaaGreatKoA7
import Derived.Test.YtdcjngakmkgbmaaGreatKoB5
import Derived.Test.YtdcjngakmkgbmaaGreatKoA8
namespace Go.Proofs.YtdcjngakmkgbmaaGreat
set_option linter.unusedVariables false
open Go.RowKit
set_option maxRecDepth 20000 in
set_option maxHeartbeats 4000000 in
theorem SummedR (B : Nat) (l : List Nat) (v : Value) (w : World) (h : Sb B l v w) (hB : B ≤ w.heap.size) (hl : l.length ≤ 17592186044416) (hlt : Lt l) (hne : 0 < l.length) :
    Calls Tryz.prog 19 #[v] w fun e w' => ∃ v', e = .returned v' ∧ Sb B (l ++ cr4N (crcF l)) v' w' ∧ Bq B w w' := by
  obtain ⟨i0, hi, hz0, hz1, hz2⟩ := u8_info
  obtain ⟨x, n, c, rfl⟩ := h.form
  have hn := h.len
  subst hn
  have H : Hid (Sb B l (.slice x l.length c) w) := h
  have HB : Hid (B ≤ w.heap.size) := hB
  have HL : Hid (l.length ≤ 17592186044416) := hl
  have C0 : Hid (Calls Tryz.prog 42 #[.slice x l.length c] w fun e w' => e = .returned (.int .u32 (uW (crcF l))) ∧ w' = w) := SumR_of x l.length c l w hl rfl hlt (fun j b hj => by obtain ⟨a, h1, _, h3⟩ := h.cell j b hj; exact ⟨a, h1, h3⟩)
  obtain ⟨a, rfl, ha, _⟩ := h.cell 0 _ (List.getElem?_eq_getElem hne)
  have SRC : Hid (∀ (j : Nat) u, (bvL l)[j]? = some u → w.cell? (a.add j) = some u) := fun j u hu => by
    unfold bvL at hu
    rw [List.getElem?_map] at hu
    obtain ⟨b, hb, rfl⟩ := Option.map_eq_some_iff.1 hu
    obtain ⟨a', e1, _, e3⟩ := h.cell j b hb
    cases e1
    exact e3
  have ONE : Hid (∀ u ∈ bvL l, u.oneCell' = true) := fun u hu => by
    unfold bvL at hu
    obtain ⟨b, _, rfl⟩ := List.mem_map.1 hu
    rfl
  have hr := uW_range (crcF l)
  have CR : Hid (bvL (cr4N (crcF l)) = _) := cr4_bv (crcF l)
  have c4 : Hid ((cr4N (crcF l)).length = 4) := rfl
  generalize crcF l = cc at *
  generalize cr4N cc = l4 at *
  generalize uW cc = q at *
  have QM : Hid (q / (16777216 : Int) % (256 : Int) = q / (16777216 : Int)) := by show _ = _; omega
  clear h hB hl hlt ha
  go_enter Tryz.func19, Tryz.ntmps19
  go_wp2_with (go_at_call 42; refine (C0.out).mono ?_)
  first | (rintro e w1 ⟨he, hw⟩; have he' := he) | (rintro e w1 he hw)
  subst he
  rw [hw]
  clear hw w1
  go_wp2_with (at_builtin; refine wpList_append_own _ rfl _ _ 27 rfl B 5 i0 _ 1 1 Tryz.underlying27 hi hz0 hz1 hz2 rfl (by decide) _ 0 [] rfl (World.ownsRow_nil _ _ _ _) a l.length c (bvL l) rfl (by rw [bvL_len]; omega) SRC.out ONE.out (by have := HL.out; unfold maxLen; omega) (by have := HL.out; omega) HB.out ?_)
  intro v1 w1 k1 k2 k3
  have S1 : Hid (Sb B l v1 w1) := by
    first
      | exact k1
      | (have q := k1; rw [Nat.zero_add, List.nil_append] at q; exact q)
  have Q1 : Hid (Bq B w w1) := (Bq.refl B w).grown (v := .slice none 0 0) (World.ownsRow_nil _ _ _ _) k2 HB.out
  obtain ⟨tx, tn, tc, rfl⟩ := S1.out.form
  have GA : Hid (∀ X : Obj, Below w1.heap.size w1 (w1.alloc X)) := fun X => (Below.refl _ _).alloc (Nat.le_refl _) _
  have BW : Hid (B ≤ w1.heap.size) := Nat.le_trans HB.out Q1.out.b.size
  clear k1 k2 k3
  go_wp2_with (at_builtin; refine wpList_append_own _ rfl _ _ 27 rfl B 5 i0 _ 1 1 Tryz.underlying27 hi hz0 hz1 hz2 rfl (by decide) _ l.length (bvL l) rfl (S1.out.below (GA.out _)) ⟨w1.heap.size, 0, none⟩ 4 4 [.int .u8 (q % 256), .int .u8 (q / 256 % 256), .int .u8 (q / 65536 % 256), .int .u8 (q / 16777216)] rfl rfl (four_new _ _ _ _ _ _) (by intro u hu; simp at hu; rcases hu with rfl | rfl | rfl | rfl <;> rfl) (by have := HL.out; unfold maxLen; omega) (by have := HL.out; omega) (by have := BW.out; simp; omega) ?_)
  intro v2 w2 k1 k2 k3
  have S2 : Hid (Sb B (l ++ l4) v2 w2) := Sb.app k1 (by rw [c4.out]) (by rw [CR.out, QM.out])
  have Q2 : Hid (Bq B w w2) := (Q1.out.trans (Bq.up (GA.out _) BW.out)).grown (S1.out.below (GA.out _)) k2 (by have := BW.out; simp; omega)
  obtain ⟨ux, un, uc, rfl⟩ := S2.out.form
  clear k1 k2 k3
  go_wp2
  go_ret
  exact ⟨_, rfl, S2.out, Q2.out⟩
end Go.Proofs.YtdcjngakmkgbmaaGreat
namespace Go.Proofs.YtdcjngakmkgbmaaGreat
set_option linter.unusedVariables false
open Go.RowKit
theorem cellR_of (l : List CeR) (x : Option Addr) (p i : Nat) (w : World) {S : Nat → Prop} (hS : ∀ b, S b → b < w.heap.size) (ha : RwF 11 (Is ceC) S w x l) (ho : ∀ c ∈ l, CeOk c) (hi : i < l.length) :
    Calls Tryz.prog 38 #[.slice x l.length p, .int .i64 i] w fun e w' => e = .returned (.bool (ceAt l i)) ∧ Below w.heap.size w w' := by
  by_cases h : ∀ c, l[i]? = some c → c.kd = 20
  · exact cellR_a l x p i w hS ha ho hi h
  · exact cellR_b l x p i w hS ha ho hi (fun c hc q => h (fun d hd => by rw [hc] at hd; cases hd; exact q))
end Go.Proofs.YtdcjngakmkgbmaaGreat
namespace Go.Proofs.YtdcjngakmkgbmaaGreat.Ty
set_option linter.unusedVariables false
set_option linter.unusedSimpArgs false
open Go.RowKit
set_option maxRecDepth 20000 in
set_option maxHeartbeats 8000000 in
theorem RlFt (g kb o c : Nat) (bs : List Nat) (rd : RS → FlR × RS)
    (hE : ∀ (s : RS) (W : World), Rd g kb o c bs s W → Calls Tryz.prog 71 #[.pointer (some ⟨g, 0, none⟩)] W fun e w' => (∃ x1 c1 x2 c2, e = .returned (.agg #[.string (rd s).1.nm, .int .i64 (rd s).1.wh, .int .i64 (rd s).1.ce, .int .i64 (rd s).1.ba, .int .i64 (rd s).1.rg, .int .i64 (rd s).1.sl, .slice x1 (rd s).1.os.length c1, .slice x2 (rd s).1.ls.length c2]) ∧ FlT (Fresh W.heap.size w'.heap.size) w' (rd s).1 x1 c1 x2 c2) ∧ Rd g kb o c bs (rd s).2 w' ∧ W.grownBy w' (some g))
    (s : RS) (w : World) (h : Rd g kb o c bs s w) :
    Calls Tryz.prog 70 #[.pointer (some ⟨g, 0, none⟩), .func (.func 71) #[.pointer (some ⟨g, 0, none⟩)] #[]] w fun e w' => (∃ y k, e = .returned (.slice y (rdL rd bs s).1.length k) ∧ RwT 44 8 (FlTP (Fresh w.heap.size w'.heap.size) w') (Fresh w.heap.size w'.heap.size) w' y k (rdL rd bs s).1) ∧ Rd g kb o c bs (rdL rd bs s).2 w' ∧ w.grownBy w' (some g) := by
  have CT : Hid (Calls Tryz.prog 99 #[.pointer (some ⟨g, 0, none⟩)] w fun e w' => e = .returned (.int .i64 (rdC bs s).1) ∧ Rd g kb o c bs (rdC bs s).2 w' ∧ w.grownBy w' (some g)) := cntM g kb o c bs s w h
  have OK : Hid ((rdC bs s).2.y = 0 → 0 ≤ (rdC bs s).1 ∧ (rdC bs s).1.toNat ≤ 4194304) := fun q => by have := rdC_ok q; have := h.n4; omega
  have GL : Hid (g < w.heap.size) := h.lt
  have HE : Hid _ := hE
  show Calls _ _ _ _ fun e w' => (∃ y k, e = .returned (.slice y (rdKL rd (rdC bs s).1.toNat (rdC bs s).2).length k) ∧ RwT 44 8 (FlTP (Fresh w.heap.size w'.heap.size) w') (Fresh w.heap.size w'.heap.size) w' y k (rdKL rd (rdC bs s).1.toNat (rdC bs s).2)) ∧ Rd g kb o c bs (rdKS rd (rdC bs s).1.toNat (rdC bs s).2) w' ∧ w.grownBy w' (some g)
  generalize (rdC bs s).1 = N at *
  generalize (rdC bs s).2 = s1 at *
  clear h hE
  go_enter Tryz.func70, Tryz.ntmps70
  go_upto_region 2 with fail
  go_wp2_with (go_at_call 99; refine (CT.out).mono ?_)
  first | (rintro e w1 ⟨he, h1, g1⟩; have he' := he) | (rintro e w1 he h1 g1)
  subst he
  have R1 : Hid (Rd g kb o c bs s1 w1) := h1
  have G1 : Hid (w.grownBy w1 (some g)) := g1
  have GB : Hid (g < w1.heap.size) := h1.lt
  clear h1 g1
  go_wp2
  go_loopw [5, 8] (fun v i wr => ∃ (k : Nat) (t : RS), i = .int .i64 k ∧ LsI rd N.toNat s1 k t ∧ MkI 44 8 FlTP w1.heap.size (rdKL rd N.toNat s1) k v wr ∧ Rd g kb o c bs t wr ∧ w1.grownBy wr (some g)) (fun _ i _ => N.toNat - (intOf i).toNat)
  case atStart => exact ⟨0, s1, rfl, LsI.zero, MkI.zero _ _ _ _ _ _, R1.out, gb_refl _ _⟩
  case round =>
    obtain ⟨k, t, rfl, hL, hM, hR, hG⟩ := hrel
    have LI : Hid (LsI rd N.toNat s1 k t) := hL
    have MI : Hid (MkI 44 8 FlTP w1.heap.size (rdKL rd N.toNat s1) k u5 wr) := hM
    have RI : Hid (Rd g kb o c bs t wr) := hR
    have GI : Hid (w1.grownBy wr (some g)) := hG
    have fin : Hid (k = N.toNat ∨ t.y ≠ 0 → (∃ y c2, u5 = .slice y (rdKL rd N.toNat s1).length c2 ∧ RwT 44 8 (FlTP (Fresh w.heap.size wr.heap.size) wr) (Fresh w.heap.size wr.heap.size) wr y c2 (rdKL rd N.toNat s1)) ∧ Rd g kb o c bs (rdKS rd N.toNat s1) wr ∧ w.grownBy wr (some g)) := fun q => by
      obtain ⟨e1, e2⟩ := hL.last q
      rw [e2]
      have fe : few (rdKL rd N.toNat s1).length := by
        have := rdKL_len rd N.toNat s1
        by_cases z : s1.y = 0
        · have := OK.out z; show _ < _; omega
        · rw [rdKL_bad rd _ z]; show 0 < _; omega
      have hM2 := hM
      rw [← e1] at hM2
      obtain ⟨y, c2, ey, hy⟩ := mk_done keptF hM2 fe
      exact ⟨⟨y, c2, ey, (hy.subK keptF (up_sub' G1.out.size (Nat.le_refl _)))⟩, hR, gb_trans G1.out hG⟩
    clear hL hM hR hG
    by_cases hlt : (k : Int) < N
    · by_cases hy : t.y = 0
      · have HB : Hid (Calls Tryz.prog 74 #[.pointer (some ⟨g, 0, none⟩)] wr fun e w' => e = .returned (.bool false) ∧ w' = wr) := by
          have q := failedX g _ _ _ _ _ _ wr RI.out.at_
          rw [hy] at q
          exact q
        have NX : Hid (LsI rd N.toNat s1 (k + 1) (rd t).2) := LI.out.next (by omega) hy
        have GE : Hid ((rdKL rd N.toNat s1)[k]? = some (rd t).1) := LI.out.get (by omega) hy
        have LE : Hid (k + 1 ≤ 4194304) := by have := OK.out (LI.out.ok hy); show _ ≤ _; omega
        have LT : Hid ((k : Int) < N) := hlt
        clear hy fin LI
        go_wp2_with (go_at_call 74; refine (HB.out).mono ?_)
        try (first | (rintro e w2 ⟨he, hw⟩; have he' := he; subst he; rw [hw]; clear hw w2) | (rintro e w2 he hw; subst he; rw [hw]; clear hw w2))
        go_wp2_with fail
        refine (HE.out t wr RI.out).mono ?_
        first | (rintro e w5 ⟨⟨z1, d1, z2, d2, he, fq⟩, h5, g5⟩; have he' := he) | (rintro e w5 z1 d1 z2 d2 he fq h5 g5)
        subst he
        have R5 : Hid (Rd g kb o c bs (rd t).2 w5) := h5
        have G5 : Hid (wr.grownBy w5 (some g)) := g5
        have F5 : Hid (FlT (Fresh wr.heap.size w5.heap.size) w5 (rd t).1 z1 d1 z2 d2) := fq
        clear fq
        clear h5 g5 RI HE HB
        generalize (rd t).1 = ee at *
        generalize (rd t).2 = t2 at *
        obtain ⟨vss, ehs, hvn, how, hev⟩ := MI.out
        have EHS : Hid (vss.length = k) := ehs
        have HVN : Hid (∀ v ∈ vss, v.length = 8) := hvn
        have OW : Hid (wr.ownsRow w1.heap.size 44 8 u5 k vss.flatten) := how
        have EV : Hid _ := hev
        clear ehs hvn how hev MI
        have ew : wrap64 ((k : Int) + 1) = (k : Int) + 1 := by have := LE.out; unfold wrap64; omega
        have OW5 : Hid (∀ X : Obj, (w5.alloc X).ownsRow w1.heap.size 44 8 u5 k vss.flatten) := fun X => (OW.out.kept G5.out (ob_ne OW.out.lt GB.out)).alloc X
        have NW : Hid (∀ j u, (flC ee (.slice z1 ee.os.length d1) (.slice z2 ee.ls.length d2))[j]? = some u → (w5.alloc (.cells (flC ee (.slice z1 ee.os.length d1) (.slice z2 ee.ls.length d2)).toArray 44)).cell? ((⟨w5.heap.size, 0, none⟩ : Addr).add j) = some u) := fun j u h => mk_cells w5 _ _ j u h
        have BZ : Hid (∀ X : Obj, w1.heap.size ≤ (w5.alloc X).heap.size) := fun X => by have := GI.out.size; have := G5.out.size; simp; omega
        have I : Hid _ := infRlF
        go_wp2_with (at_builtin; obtain ⟨i, z, hi, hz, hs', hy, hzc⟩ := I.out; refine wpList_append_own_at _ rfl _ _ 23 rfl w1.heap.size 44 i z 8 104 Tryz.underlying23 hi hz hs' hy hzc (by decide) u5 k vss.flatten rfl (OW5.out _) ⟨w5.heap.size, 0, none⟩ 1 1 (flC ee (.slice z1 ee.os.length d1) (.slice z2 ee.ls.length d2)) rfl rfl NW.out (by intro u hu; simp at hu; rcases hu with h | h | h | h | h | h | h | h <;> subst h <;> rfl) (by have := LE.out; simp [maxLen]; omega) (by have := LE.out; omega) (BZ.out _) ?_; intro v' w7 q1 q2 q3 q4; have Q1 : Hid _ := q1; have Q2 : Hid _ := q2; have Q4 : Hid _ := q4; clear q1 q2 q3 q4 hi hz hs' hy hzc)
        rw [ew]
        have B5 : wr.grownBy (w5.alloc (.cells (flC ee (.slice z1 ee.os.length d1) (.slice z2 ee.ls.length d2)).toArray 44)) (some g) := gb_trans G5.out (gb_alloc _ _ _)
        have hob : ∀ i, u5.ownBlock = some i → w1.heap.size ≤ i := fun i hi => (OW.out.lt i hi).1
        refine ⟨⟨k + 1, t2, rfl, NX.out, mk_stepG keptF GB.out EHS.out HVN.out EV.out OW.out.lt _ _ GE.out rfl GI.out.size B5 ⟨z1, d1, z2, d2, rfl, (F5.out.fr (fun q hq => ((gb_alloc _ _ none).block _ hq.2 (by simp)))).sub (up_sub' (Nat.le_refl _) (gb_alloc _ _ none).size)⟩ Q2.out Q1.out Q4.out, ?_, ?_⟩, ?_⟩
        · exact (R5.out.al _).grown Q2.out (fun q => by have := hob _ q; have := GB.out; omega) (fun q => by have := hob _ q; have := R1.out.kl; omega)
        · exact gb_own (gb_trans GI.out B5) Q2.out hob
        · have := LT.out
          show N.toNat - ((k : Int) + 1).toNat < N.toNat - (k : Int).toNat
          omega
      · have HB : Hid (Calls Tryz.prog 74 #[.pointer (some ⟨g, 0, none⟩)] wr fun e w' => e = .returned (.bool true) ∧ w' = wr) := by
          have q := failedX g _ _ _ _ _ _ wr RI.out.at_
          rw [show (t.y != 0) = true by simp [hy]] at q
          exact q
        obtain ⟨⟨y, c2, ev, hy2⟩, hr2, hg2⟩ := fin.out (Or.inr hy)
        subst ev
        have Y2 : Hid _ := hy2
        have R2 : Hid _ := hr2
        have G2 : Hid _ := hg2
        clear hy hy2 hr2 hg2 fin LI MI RI GI
        go_wp2_with (go_at_call 74; refine (HB.out).mono ?_)
        try (first | (rintro e w2 ⟨he, hw⟩; have he' := he; subst he; rw [hw]; clear hw w2) | (rintro e w2 he hw; subst he; rw [hw]; clear hw w2))
        go_wp2
        go_ret
        first | exact ⟨⟨y, ⟨c2, rfl⟩, Y2.out⟩, R2.out, G2.out⟩ | exact ⟨⟨y, c2, rfl, Y2.out⟩, R2.out, G2.out⟩
    · obtain ⟨⟨y, c2, ev, hy2⟩, hr2, hg2⟩ := fin.out (Or.inl (by have := LI.out.1; omega))
      subst ev
      have Y2 : Hid _ := hy2
      have R2 : Hid _ := hr2
      have G2 : Hid _ := hg2
      clear hy2 hr2 hg2 fin LI MI RI GI
      go_wp2
      go_ret
      first | exact ⟨⟨y, ⟨c2, rfl⟩, Y2.out⟩, R2.out, G2.out⟩ | exact ⟨⟨y, c2, rfl, Y2.out⟩, R2.out, G2.out⟩
set_option maxRecDepth 20000 in
set_option maxHeartbeats 8000000 in
theorem RlJt (g kb o c : Nat) (bs : List Nat) (rd : RS → JbR × RS)
    (hE : ∀ (s : RS) (W : World), Rd g kb o c bs s W → Calls Tryz.prog 73 #[.pointer (some ⟨g, 0, none⟩)] W fun e w' => (∃ x1 c1 x2 c2, e = .returned (.agg #[.string (rd s).1.nm, .int .i64 (rd s).1.iv, .int .i64 (rd s).1.sg, .int .i64 (rd s).1.pr, .slice x1 (rd s).1.cs.length c1, .slice x2 (rd s).1.bs.length c2, .int .i64 (rd s).1.bd]) ∧ JbT (Fresh W.heap.size w'.heap.size) w' (rd s).1 x1 c1 x2 c2) ∧ Rd g kb o c bs (rd s).2 w' ∧ W.grownBy w' (some g))
    (s : RS) (w : World) (h : Rd g kb o c bs s w) :
    Calls Tryz.prog 72 #[.pointer (some ⟨g, 0, none⟩), .func (.func 73) #[.pointer (some ⟨g, 0, none⟩)] #[]] w fun e w' => (∃ y k, e = .returned (.slice y (rdL rd bs s).1.length k) ∧ RwT 51 7 (JbTP (Fresh w.heap.size w'.heap.size) w') (Fresh w.heap.size w'.heap.size) w' y k (rdL rd bs s).1) ∧ Rd g kb o c bs (rdL rd bs s).2 w' ∧ w.grownBy w' (some g) := by
  have CT : Hid (Calls Tryz.prog 99 #[.pointer (some ⟨g, 0, none⟩)] w fun e w' => e = .returned (.int .i64 (rdC bs s).1) ∧ Rd g kb o c bs (rdC bs s).2 w' ∧ w.grownBy w' (some g)) := cntM g kb o c bs s w h
  have OK : Hid ((rdC bs s).2.y = 0 → 0 ≤ (rdC bs s).1 ∧ (rdC bs s).1.toNat ≤ 4194304) := fun q => by have := rdC_ok q; have := h.n4; omega
  have GL : Hid (g < w.heap.size) := h.lt
  have HE : Hid _ := hE
  show Calls _ _ _ _ fun e w' => (∃ y k, e = .returned (.slice y (rdKL rd (rdC bs s).1.toNat (rdC bs s).2).length k) ∧ RwT 51 7 (JbTP (Fresh w.heap.size w'.heap.size) w') (Fresh w.heap.size w'.heap.size) w' y k (rdKL rd (rdC bs s).1.toNat (rdC bs s).2)) ∧ Rd g kb o c bs (rdKS rd (rdC bs s).1.toNat (rdC bs s).2) w' ∧ w.grownBy w' (some g)
  generalize (rdC bs s).1 = N at *
  generalize (rdC bs s).2 = s1 at *
  clear h hE
  go_enter Tryz.func72, Tryz.ntmps72
  go_upto_region 2 with fail
  go_wp2_with (go_at_call 99; refine (CT.out).mono ?_)
  first | (rintro e w1 ⟨he, h1, g1⟩; have he' := he) | (rintro e w1 he h1 g1)
  subst he
  have R1 : Hid (Rd g kb o c bs s1 w1) := h1
  have G1 : Hid (w.grownBy w1 (some g)) := g1
  have GB : Hid (g < w1.heap.size) := h1.lt
  clear h1 g1
  go_wp2
  go_loopw [5, 8] (fun v i wr => ∃ (k : Nat) (t : RS), i = .int .i64 k ∧ LsI rd N.toNat s1 k t ∧ MkI 51 7 JbTP w1.heap.size (rdKL rd N.toNat s1) k v wr ∧ Rd g kb o c bs t wr ∧ w1.grownBy wr (some g)) (fun _ i _ => N.toNat - (intOf i).toNat)
  case atStart => exact ⟨0, s1, rfl, LsI.zero, MkI.zero _ _ _ _ _ _, R1.out, gb_refl _ _⟩
  case round =>
    obtain ⟨k, t, rfl, hL, hM, hR, hG⟩ := hrel
    have LI : Hid (LsI rd N.toNat s1 k t) := hL
    have MI : Hid (MkI 51 7 JbTP w1.heap.size (rdKL rd N.toNat s1) k u5 wr) := hM
    have RI : Hid (Rd g kb o c bs t wr) := hR
    have GI : Hid (w1.grownBy wr (some g)) := hG
    have fin : Hid (k = N.toNat ∨ t.y ≠ 0 → (∃ y c2, u5 = .slice y (rdKL rd N.toNat s1).length c2 ∧ RwT 51 7 (JbTP (Fresh w.heap.size wr.heap.size) wr) (Fresh w.heap.size wr.heap.size) wr y c2 (rdKL rd N.toNat s1)) ∧ Rd g kb o c bs (rdKS rd N.toNat s1) wr ∧ w.grownBy wr (some g)) := fun q => by
      obtain ⟨e1, e2⟩ := hL.last q
      rw [e2]
      have fe : few (rdKL rd N.toNat s1).length := by
        have := rdKL_len rd N.toNat s1
        by_cases z : s1.y = 0
        · have := OK.out z; show _ < _; omega
        · rw [rdKL_bad rd _ z]; show 0 < _; omega
      have hM2 := hM
      rw [← e1] at hM2
      obtain ⟨y, c2, ey, hy⟩ := mk_done keptJ hM2 fe
      exact ⟨⟨y, c2, ey, (hy.subK keptJ (up_sub' G1.out.size (Nat.le_refl _)))⟩, hR, gb_trans G1.out hG⟩
    clear hL hM hR hG
    by_cases hlt : (k : Int) < N
    · by_cases hy : t.y = 0
      · have HB : Hid (Calls Tryz.prog 74 #[.pointer (some ⟨g, 0, none⟩)] wr fun e w' => e = .returned (.bool false) ∧ w' = wr) := by
          have q := failedX g _ _ _ _ _ _ wr RI.out.at_
          rw [hy] at q
          exact q
        have NX : Hid (LsI rd N.toNat s1 (k + 1) (rd t).2) := LI.out.next (by omega) hy
        have GE : Hid ((rdKL rd N.toNat s1)[k]? = some (rd t).1) := LI.out.get (by omega) hy
        have LE : Hid (k + 1 ≤ 4194304) := by have := OK.out (LI.out.ok hy); show _ ≤ _; omega
        have LT : Hid ((k : Int) < N) := hlt
        clear hy fin LI
        go_wp2_with (go_at_call 74; refine (HB.out).mono ?_)
        try (first | (rintro e w2 ⟨he, hw⟩; have he' := he; subst he; rw [hw]; clear hw w2) | (rintro e w2 he hw; subst he; rw [hw]; clear hw w2))
        go_wp2_with fail
        refine (HE.out t wr RI.out).mono ?_
        first | (rintro e w5 ⟨⟨z1, d1, z2, d2, he, fq⟩, h5, g5⟩; have he' := he) | (rintro e w5 z1 d1 z2 d2 he fq h5 g5)
        subst he
        have R5 : Hid (Rd g kb o c bs (rd t).2 w5) := h5
        have G5 : Hid (wr.grownBy w5 (some g)) := g5
        have F5 : Hid (JbT (Fresh wr.heap.size w5.heap.size) w5 (rd t).1 z1 d1 z2 d2) := fq
        clear fq
        clear h5 g5 RI HE HB
        generalize (rd t).1 = ee at *
        generalize (rd t).2 = t2 at *
        obtain ⟨vss, ehs, hvn, how, hev⟩ := MI.out
        have EHS : Hid (vss.length = k) := ehs
        have HVN : Hid (∀ v ∈ vss, v.length = 7) := hvn
        have OW : Hid (wr.ownsRow w1.heap.size 51 7 u5 k vss.flatten) := how
        have EV : Hid _ := hev
        clear ehs hvn how hev MI
        have ew : wrap64 ((k : Int) + 1) = (k : Int) + 1 := by have := LE.out; unfold wrap64; omega
        have OW5 : Hid (∀ X : Obj, (w5.alloc X).ownsRow w1.heap.size 51 7 u5 k vss.flatten) := fun X => (OW.out.kept G5.out (ob_ne OW.out.lt GB.out)).alloc X
        have NW : Hid (∀ j u, (jbC ee (.slice z1 ee.cs.length d1) (.slice z2 ee.bs.length d2))[j]? = some u → (w5.alloc (.cells (jbC ee (.slice z1 ee.cs.length d1) (.slice z2 ee.bs.length d2)).toArray 51)).cell? ((⟨w5.heap.size, 0, none⟩ : Addr).add j) = some u) := fun j u h => mk_cells w5 _ _ j u h
        have BZ : Hid (∀ X : Obj, w1.heap.size ≤ (w5.alloc X).heap.size) := fun X => by have := GI.out.size; have := G5.out.size; simp; omega
        have I : Hid _ := infRlJ
        go_wp2_with (at_builtin; obtain ⟨i, z, hi, hz, hs', hy, hzc⟩ := I.out; refine wpList_append_own_at _ rfl _ _ 24 rfl w1.heap.size 51 i z 7 96 Tryz.underlying24 hi hz hs' hy hzc (by decide) u5 k vss.flatten rfl (OW5.out _) ⟨w5.heap.size, 0, none⟩ 1 1 (jbC ee (.slice z1 ee.cs.length d1) (.slice z2 ee.bs.length d2)) rfl rfl NW.out (by intro u hu; simp at hu; rcases hu with h | h | h | h | h | h | h <;> subst h <;> rfl) (by have := LE.out; simp [maxLen]; omega) (by have := LE.out; omega) (BZ.out _) ?_; intro v' w7 q1 q2 q3 q4; have Q1 : Hid _ := q1; have Q2 : Hid _ := q2; have Q4 : Hid _ := q4; clear q1 q2 q3 q4 hi hz hs' hy hzc)
        rw [ew]
        have B5 : wr.grownBy (w5.alloc (.cells (jbC ee (.slice z1 ee.cs.length d1) (.slice z2 ee.bs.length d2)).toArray 51)) (some g) := gb_trans G5.out (gb_alloc _ _ _)
        have hob : ∀ i, u5.ownBlock = some i → w1.heap.size ≤ i := fun i hi => (OW.out.lt i hi).1
        refine ⟨⟨k + 1, t2, rfl, NX.out, mk_stepG keptJ GB.out EHS.out HVN.out EV.out OW.out.lt _ _ GE.out rfl GI.out.size B5 ⟨z1, d1, z2, d2, rfl, (F5.out.fr (fun q hq => ((gb_alloc _ _ none).block _ hq.2 (by simp)))).sub (up_sub' (Nat.le_refl _) (gb_alloc _ _ none).size)⟩ Q2.out Q1.out Q4.out, ?_, ?_⟩, ?_⟩
        · exact (R5.out.al _).grown Q2.out (fun q => by have := hob _ q; have := GB.out; omega) (fun q => by have := hob _ q; have := R1.out.kl; omega)
        · exact gb_own (gb_trans GI.out B5) Q2.out hob
        · have := LT.out
          show N.toNat - ((k : Int) + 1).toNat < N.toNat - (k : Int).toNat
          omega
      · have HB : Hid (Calls Tryz.prog 74 #[.pointer (some ⟨g, 0, none⟩)] wr fun e w' => e = .returned (.bool true) ∧ w' = wr) := by
          have q := failedX g _ _ _ _ _ _ wr RI.out.at_
          rw [show (t.y != 0) = true by simp [hy]] at q
          exact q
        obtain ⟨⟨y, c2, ev, hy2⟩, hr2, hg2⟩ := fin.out (Or.inr hy)
        subst ev
        have Y2 : Hid _ := hy2
        have R2 : Hid _ := hr2
        have G2 : Hid _ := hg2
        clear hy hy2 hr2 hg2 fin LI MI RI GI
        go_wp2_with (go_at_call 74; refine (HB.out).mono ?_)
        try (first | (rintro e w2 ⟨he, hw⟩; have he' := he; subst he; rw [hw]; clear hw w2) | (rintro e w2 he hw; subst he; rw [hw]; clear hw w2))
        go_wp2
        go_ret
        first | exact ⟨⟨y, ⟨c2, rfl⟩, Y2.out⟩, R2.out, G2.out⟩ | exact ⟨⟨y, c2, rfl, Y2.out⟩, R2.out, G2.out⟩
    · obtain ⟨⟨y, c2, ev, hy2⟩, hr2, hg2⟩ := fin.out (Or.inl (by have := LI.out.1; omega))
      subst ev
      have Y2 : Hid _ := hy2
      have R2 : Hid _ := hr2
      have G2 : Hid _ := hg2
      clear hy2 hr2 hg2 fin LI MI RI GI
      go_wp2
      go_ret
      first | exact ⟨⟨y, ⟨c2, rfl⟩, Y2.out⟩, R2.out, G2.out⟩ | exact ⟨⟨y, c2, rfl, Y2.out⟩, R2.out, G2.out⟩
end Go.Proofs.YtdcjngakmkgbmaaGreat.Ty
namespace Go.Proofs.YtdcjngakmkgbmaaGreat.Ty
set_option linter.unusedVariables false
set_option linter.unusedSimpArgs false
open Go.RowKit
theorem rw_keep {α : Type} {T : TypeId} {n c : Nat} {P : (Nat → Prop) → World → α → List Value → Prop} (K : KeptB P) {b g : Nat} {w w' : World} {x : Option Addr} {l : List α} (h : RwT T n (P (Fresh b w.heap.size) w) (Fresh b w.heap.size) w x c l) (hg : w.grownBy w' (some g)) (hgb : g < b) : RwT T n (P (Fresh b w'.heap.size) w') (Fresh b w'.heap.size) w' x c l :=
  RwT.subK K (up_sub' (Nat.le_refl _) hg.size) (h.frK K (fun q hq => hg.block _ hq.2 (fun e => by cases e; have := hq.1; omega)))
theorem rw_row {α : Type} {T : TypeId} {n c : Nat} {P : (Nat → Prop) → World → α → List Value → Prop} (K : KeptB P) {a r : Nat} {w : World} {x : Option Addr} {l : List α} {vs : Array Value} (h : RwT T n (P (Fresh (r + 1) w.heap.size) w) (Fresh (r + 1) w.heap.size) w x c l) (ha : a ≤ r) : RwT T n (P (Fresh a (w.setRow r vs).heap.size) (w.setRow r vs)) (Fresh a (w.setRow r vs).heap.size) (w.setRow r vs) x c l :=
  RwT.subK K (up_sub' (Nat.le_succ_of_le ha) (by simp [World.setRow])) (h.frK K (fun q hq => setRow_other _ _ _ _ (by have := hq.1; omega)))
set_option maxRecDepth 20000 in
set_option maxHeartbeats 8000000 in
theorem codeGt (g kb o c : Nat) (bs : List Nat) (s s1 s2 s3 s4 s5 s6 s7 s8 : RS) (v1 : ByteArray) (v2 : Int) (v3 : Int) (v4 : Int) (v5 : Int) (v6 : Int) (v7 : List OpR) (v8 : List LpR)
    (C1 : ∀ W, Rd g kb o c bs s W → Calls Tryz.prog 67 #[.pointer (some ⟨g, 0, none⟩)] W fun e w' => e = .returned (.string v1) ∧ Rd g kb o c bs s1 w' ∧ W.grownBy w' (some g))
    (C2 : ∀ W, Rd g kb o c bs s1 W → Calls Tryz.prog 103 #[.pointer (some ⟨g, 0, none⟩)] W fun e w' => e = .returned (.int .i64 v2) ∧ Rd g kb o c bs s2 w' ∧ W.grownBy w' (some g))
    (C3 : ∀ W, Rd g kb o c bs s2 W → Calls Tryz.prog 103 #[.pointer (some ⟨g, 0, none⟩)] W fun e w' => e = .returned (.int .i64 v3) ∧ Rd g kb o c bs s3 w' ∧ W.grownBy w' (some g))
    (C4 : ∀ W, Rd g kb o c bs s3 W → Calls Tryz.prog 103 #[.pointer (some ⟨g, 0, none⟩)] W fun e w' => e = .returned (.int .i64 v4) ∧ Rd g kb o c bs s4 w' ∧ W.grownBy w' (some g))
    (C5 : ∀ W, Rd g kb o c bs s4 W → Calls Tryz.prog 103 #[.pointer (some ⟨g, 0, none⟩)] W fun e w' => e = .returned (.int .i64 v5) ∧ Rd g kb o c bs s5 w' ∧ W.grownBy w' (some g))
    (C6 : ∀ W, Rd g kb o c bs s5 W → Calls Tryz.prog 103 #[.pointer (some ⟨g, 0, none⟩)] W fun e w' => e = .returned (.int .i64 v6) ∧ Rd g kb o c bs s6 w' ∧ W.grownBy w' (some g))
    (C7 : ∀ W, Rd g kb o c bs s6 W → Calls Tryz.prog 105 #[.pointer (some ⟨g, 0, none⟩), .func (.func 106) #[.pointer (some ⟨g, 0, none⟩)] #[]] W fun e w' => (∃ y k, e = .returned (.slice y v7.length k) ∧ RwT 46 10 ((fun S w => Is opC) (Fresh W.heap.size w'.heap.size) w') (Fresh W.heap.size w'.heap.size) w' y k v7) ∧ Rd g kb o c bs s7 w' ∧ W.grownBy w' (some g))
    (C8 : ∀ W, Rd g kb o c bs s7 W → Calls Tryz.prog 107 #[.pointer (some ⟨g, 0, none⟩), .func (.func 108) #[.pointer (some ⟨g, 0, none⟩)] #[]] W fun e w' => (∃ y k, e = .returned (.slice y v8.length k) ∧ RwT 48 3 ((fun S w => Is lpC) (Fresh W.heap.size w'.heap.size) w') (Fresh W.heap.size w'.heap.size) w' y k v8) ∧ Rd g kb o c bs s8 w' ∧ W.grownBy w' (some g))
    (w : World) (h : Rd g kb o c bs s w) :
    Calls Tryz.prog 71 #[.pointer (some ⟨g, 0, none⟩)] w fun e w' => (∃ y7 c7 y8 c8, e = .returned (.agg #[.string v1, .int .i64 v2, .int .i64 v3, .int .i64 v4, .int .i64 v5, .int .i64 v6, .slice y7 v7.length c7, .slice y8 v8.length c8]) ∧ RwT 46 10 ((fun S w => Is opC) (Fresh w.heap.size w'.heap.size) w') (Fresh w.heap.size w'.heap.size) w' y7 c7 v7 ∧ RwT 48 3 ((fun S w => Is lpC) (Fresh w.heap.size w'.heap.size) w') (Fresh w.heap.size w'.heap.size) w' y8 c8 v8) ∧ Rd g kb o c bs s8 w' ∧ w.grownBy w' (some g) := by
  obtain ⟨r, hr⟩ : ∃ r, w.heap.size = r := ⟨_, rfl⟩
  obtain ⟨AW, eW⟩ : ∃ AW, AW = w.alloc (.cells #[.string ⟨#[]⟩, .int .i64 0, .int .i64 0, .int .i64 0, .int .i64 0, .int .i64 0, .slice none 0 0, .slice none 0 0] 44 (0, 0)) := ⟨_, rfl⟩
  have R0 : Hid (Rd g kb o c bs s AW) := by rw [eW]; exact h.al _
  have G0 : Hid (w.grownBy AW (some g)) := by rw [eW]; exact gb_alloc _ _ _
  have X0 : Hid (AW.heap[r]? = some (.cells #[.string ⟨#[]⟩, .int .i64 0, .int .i64 0, .int .i64 0, .int .i64 0, .int .i64 0, .slice none 0 0, .slice none 0 0] 44 (0, 0))) := by rw [eW, ← hr]; exact heap_alloc_last _ _
  have NG : Hid (r ≠ g) := by have := h.lt; show r ≠ g; omega
  have RG : Hid (w.heap.size ≤ r) := by show _ ≤ _; omega
  have GR : Hid (g < r) := by have := h.lt; show _ < _; omega
  have NK : Hid (r ≠ kb) := by have := h.kl; show r ≠ kb; omega
  have S0 : Hid (r < AW.heap.size) := blk_in' X0.out
  have D1 : Hid _ := C1
  have D2 : Hid _ := C2
  have D3 : Hid _ := C3
  have D4 : Hid _ := C4
  have D5 : Hid _ := C5
  have D6 : Hid _ := C6
  have D7 : Hid _ := C7
  have D8 : Hid _ := C8
  clear h C1 C2 C3 C4 C5 C6 C7 C8
  go_enter Tryz.func71, Tryz.ntmps71
  go_upto_region 1 with fail
  rw [← eW]
  try rw [hr]
  clear eW hr
  go_wp2_with (go_at_call 67; refine (D1.out _ R0.out).mono ?_)
  first | (rintro e w1 ⟨he, h1, g1⟩; have he' := he) | (rintro e w1 he h1 g1)
  subst he
  have R1 : Hid (Rd g kb o c bs s1 w1) := h1
  have G1 : Hid (w.grownBy w1 (some g)) := gb_trans G0.out g1
  have X1 : Hid (w1.heap[r]? = some (.cells #[.string ⟨#[]⟩, .int .i64 0, .int .i64 0, .int .i64 0, .int .i64 0, .int .i64 0, .slice none 0 0, .slice none 0 0] 44 (0, 0))) := (g1.block r (blk_in' X0.out) (by have := NG.out; intro q; cases q; exact this rfl)).trans X0.out
  have S1 : Hid (r < w1.heap.size) := blk_in' X1.out
  clear h1 g1 R0 G0 X0 S0 D1
  go_wp2_with (go_at_call 103; refine (D2.out _ R1.out).mono ?_)
  first | (rintro e w2 ⟨he, h1, g1⟩; have he' := he) | (rintro e w2 he h1 g1)
  subst he
  have R2 : Hid (Rd g kb o c bs s2 w2) := h1
  have G2 : Hid (w.grownBy w2 (some g)) := gb_trans G1.out g1
  have X2 : Hid (w2.heap[r]? = some (.cells #[.string ⟨#[]⟩, .int .i64 0, .int .i64 0, .int .i64 0, .int .i64 0, .int .i64 0, .slice none 0 0, .slice none 0 0] 44 (0, 0))) := (g1.block r (blk_in' X1.out) (by have := NG.out; intro q; cases q; exact this rfl)).trans X1.out
  have S2 : Hid (r < w2.heap.size) := blk_in' X2.out
  clear h1 g1 R1 G1 X1 S1 D2
  go_wp2_with (go_at_call 103; refine (D3.out _ R2.out).mono ?_)
  first | (rintro e w3 ⟨he, h1, g1⟩; have he' := he) | (rintro e w3 he h1 g1)
  subst he
  have R3 : Hid (Rd g kb o c bs s3 w3) := h1
  have G3 : Hid (w.grownBy w3 (some g)) := gb_trans G2.out g1
  have X3 : Hid (w3.heap[r]? = some (.cells #[.string ⟨#[]⟩, .int .i64 0, .int .i64 0, .int .i64 0, .int .i64 0, .int .i64 0, .slice none 0 0, .slice none 0 0] 44 (0, 0))) := (g1.block r (blk_in' X2.out) (by have := NG.out; intro q; cases q; exact this rfl)).trans X2.out
  have S3 : Hid (r < w3.heap.size) := blk_in' X3.out
  clear h1 g1 R2 G2 X2 S2 D3
  go_wp2_with (go_at_call 103; refine (D4.out _ R3.out).mono ?_)
  first | (rintro e w4 ⟨he, h1, g1⟩; have he' := he) | (rintro e w4 he h1 g1)
  subst he
  have R4 : Hid (Rd g kb o c bs s4 w4) := h1
  have G4 : Hid (w.grownBy w4 (some g)) := gb_trans G3.out g1
  have X4 : Hid (w4.heap[r]? = some (.cells #[.string ⟨#[]⟩, .int .i64 0, .int .i64 0, .int .i64 0, .int .i64 0, .int .i64 0, .slice none 0 0, .slice none 0 0] 44 (0, 0))) := (g1.block r (blk_in' X3.out) (by have := NG.out; intro q; cases q; exact this rfl)).trans X3.out
  have S4 : Hid (r < w4.heap.size) := blk_in' X4.out
  clear h1 g1 R3 G3 X3 S3 D4
  go_wp2_with (go_at_call 103; refine (D5.out _ R4.out).mono ?_)
  first | (rintro e w5 ⟨he, h1, g1⟩; have he' := he) | (rintro e w5 he h1 g1)
  subst he
  have R5 : Hid (Rd g kb o c bs s5 w5) := h1
  have G5 : Hid (w.grownBy w5 (some g)) := gb_trans G4.out g1
  have X5 : Hid (w5.heap[r]? = some (.cells #[.string ⟨#[]⟩, .int .i64 0, .int .i64 0, .int .i64 0, .int .i64 0, .int .i64 0, .slice none 0 0, .slice none 0 0] 44 (0, 0))) := (g1.block r (blk_in' X4.out) (by have := NG.out; intro q; cases q; exact this rfl)).trans X4.out
  have S5 : Hid (r < w5.heap.size) := blk_in' X5.out
  clear h1 g1 R4 G4 X4 S4 D5
  go_wp2_with (go_at_call 103; refine (D6.out _ R5.out).mono ?_)
  first | (rintro e w6 ⟨he, h1, g1⟩; have he' := he) | (rintro e w6 he h1 g1)
  subst he
  have R6 : Hid (Rd g kb o c bs s6 w6) := h1
  have G6 : Hid (w.grownBy w6 (some g)) := gb_trans G5.out g1
  have X6 : Hid (w6.heap[r]? = some (.cells #[.string ⟨#[]⟩, .int .i64 0, .int .i64 0, .int .i64 0, .int .i64 0, .int .i64 0, .slice none 0 0, .slice none 0 0] 44 (0, 0))) := (g1.block r (blk_in' X5.out) (by have := NG.out; intro q; cases q; exact this rfl)).trans X5.out
  have S6 : Hid (r < w6.heap.size) := blk_in' X6.out
  clear h1 g1 R5 G5 X5 S5 D6
  go_wp2_with (go_at_call 105; refine (D7.out _ R6.out).mono ?_)
  first | (rintro e w7 ⟨⟨y7, c7, he, q1⟩, h1, g1⟩; have he' := he) | (rintro e w7 y7 c7 he q1 h1 g1)
  subst he
  have R7 : Hid (Rd g kb o c bs s7 w7) := h1
  have G7 : Hid (w.grownBy w7 (some g)) := gb_trans G6.out g1
  have X7 : Hid (w7.heap[r]? = some (.cells #[.string ⟨#[]⟩, .int .i64 0, .int .i64 0, .int .i64 0, .int .i64 0, .int .i64 0, .slice none 0 0, .slice none 0 0] 44 (0, 0))) := (g1.block r (blk_in' X6.out) (by have := NG.out; intro q; cases q; exact this rfl)).trans X6.out
  have S7 : Hid (r < w7.heap.size) := blk_in' X7.out
  have Q7_7 : Hid (RwT 46 10 ((fun S w => Is opC) (Fresh (r + 1) w7.heap.size) w7) (Fresh (r + 1) w7.heap.size) w7 y7 c7 v7) := RwT.subK (keptI _) (up_sub' S6.out (Nat.le_refl _)) q1
  clear q1
  clear h1 g1 R6 G6 X6 S6 D7
  go_wp2_with (go_at_call 107; refine (D8.out _ R7.out).mono ?_)
  first | (rintro e w8 ⟨⟨y8, c8, he, q1⟩, h1, g1⟩; have he' := he) | (rintro e w8 y8 c8 he q1 h1 g1)
  subst he
  have R8 : Hid (Rd g kb o c bs s8 w8) := h1
  have G8 : Hid (w.grownBy w8 (some g)) := gb_trans G7.out g1
  have X8 : Hid (w8.heap[r]? = some (.cells #[.string ⟨#[]⟩, .int .i64 0, .int .i64 0, .int .i64 0, .int .i64 0, .int .i64 0, .slice none 0 0, .slice none 0 0] 44 (0, 0))) := (g1.block r (blk_in' X7.out) (by have := NG.out; intro q; cases q; exact this rfl)).trans X7.out
  have S8 : Hid (r < w8.heap.size) := blk_in' X8.out
  have Q7_8 : Hid (RwT 46 10 ((fun S w => Is opC) (Fresh (r + 1) w8.heap.size) w8) (Fresh (r + 1) w8.heap.size) w8 y7 c7 v7) := rw_keep (keptI _) Q7_7.out g1 (Nat.lt_succ_of_lt GR.out)
  clear Q7_7
  have Q8_8 : Hid (RwT 48 3 ((fun S w => Is lpC) (Fresh (r + 1) w8.heap.size) w8) (Fresh (r + 1) w8.heap.size) w8 y8 c8 v8) := RwT.subK (keptI _) (up_sub' S7.out (Nat.le_refl _)) q1
  clear q1
  clear h1 g1 R7 G7 X7 S7 D8
  go_wp2_with (refine wpList_store_row rfl 44 _ _ rfl r _ rfl rfl _ _ X8.out (show (Tryz.prog.info? 44).map (·.size) = some 8 by kernel_rfl) rfl (by kernel_rfl) ?_)
  have hz := setRow_heap w8 r _ (#[.string v1, .int .i64 v2, .int .i64 v3, .int .i64 v4, .int .i64 v5, .int .i64 v6, .slice y7 v7.length c7, .slice y8 v8.length c8]) _ _ X8.out
  refine bodyPost_ret (v := .agg #[.string v1, .int .i64 v2, .int .i64 v3, .int .i64 v4, .int .i64 v5, .int .i64 v6, .slice y7 v7.length c7, .slice y8 v8.length c8]) (results_cell_row Tryz.results71 _ _ r _ _ (0, 0) _ (by first | rfl | simp [Act.put]) hz Tryz.underlying44 rfl (show (Tryz.prog.info? 44).map (·.size) = some 8 by kernel_rfl)) rfl ?_
  exact ⟨⟨y7, c7, y8, c8, rfl, rw_row (keptI _) Q7_8.out RG.out, rw_row (keptI _) Q8_8.out RG.out⟩, R8.out.row NG.out NK.out _, gb_row G8.out RG.out _⟩
set_option maxRecDepth 20000 in
set_option maxHeartbeats 8000000 in
theorem jobGt (g kb o c : Nat) (bs : List Nat) (s s1 s2 s3 s4 s5 s6 s7 : RS) (v1 : ByteArray) (v2 : Int) (v3 : Int) (v4 : Int) (v5 : List Int) (v6 : List Int) (v7 : Int)
    (C1 : ∀ W, Rd g kb o c bs s W → Calls Tryz.prog 67 #[.pointer (some ⟨g, 0, none⟩)] W fun e w' => e = .returned (.string v1) ∧ Rd g kb o c bs s1 w' ∧ W.grownBy w' (some g))
    (C2 : ∀ W, Rd g kb o c bs s1 W → Calls Tryz.prog 103 #[.pointer (some ⟨g, 0, none⟩)] W fun e w' => e = .returned (.int .i64 v2) ∧ Rd g kb o c bs s2 w' ∧ W.grownBy w' (some g))
    (C3 : ∀ W, Rd g kb o c bs s2 W → Calls Tryz.prog 103 #[.pointer (some ⟨g, 0, none⟩)] W fun e w' => e = .returned (.int .i64 v3) ∧ Rd g kb o c bs s3 w' ∧ W.grownBy w' (some g))
    (C4 : ∀ W, Rd g kb o c bs s3 W → Calls Tryz.prog 103 #[.pointer (some ⟨g, 0, none⟩)] W fun e w' => e = .returned (.int .i64 v4) ∧ Rd g kb o c bs s4 w' ∧ W.grownBy w' (some g))
    (C5 : ∀ W, Rd g kb o c bs s4 W → Calls Tryz.prog 109 #[.pointer (some ⟨g, 0, none⟩), .func (.func 103) #[.pointer (some ⟨g, 0, none⟩)] #[]] W fun e w' => (∃ y k, e = .returned (.slice y v5.length k) ∧ RwT 3 1 ((fun S w => Is inC) (Fresh W.heap.size w'.heap.size) w') (Fresh W.heap.size w'.heap.size) w' y k v5) ∧ Rd g kb o c bs s5 w' ∧ W.grownBy w' (some g))
    (C6 : ∀ W, Rd g kb o c bs s5 W → Calls Tryz.prog 109 #[.pointer (some ⟨g, 0, none⟩), .func (.func 103) #[.pointer (some ⟨g, 0, none⟩)] #[]] W fun e w' => (∃ y k, e = .returned (.slice y v6.length k) ∧ RwT 3 1 ((fun S w => Is inC) (Fresh W.heap.size w'.heap.size) w') (Fresh W.heap.size w'.heap.size) w' y k v6) ∧ Rd g kb o c bs s6 w' ∧ W.grownBy w' (some g))
    (C7 : ∀ W, Rd g kb o c bs s6 W → Calls Tryz.prog 103 #[.pointer (some ⟨g, 0, none⟩)] W fun e w' => e = .returned (.int .i64 v7) ∧ Rd g kb o c bs s7 w' ∧ W.grownBy w' (some g))
    (w : World) (h : Rd g kb o c bs s w) :
    Calls Tryz.prog 73 #[.pointer (some ⟨g, 0, none⟩)] w fun e w' => (∃ y5 c5 y6 c6, e = .returned (.agg #[.string v1, .int .i64 v2, .int .i64 v3, .int .i64 v4, .slice y5 v5.length c5, .slice y6 v6.length c6, .int .i64 v7]) ∧ RwT 3 1 ((fun S w => Is inC) (Fresh w.heap.size w'.heap.size) w') (Fresh w.heap.size w'.heap.size) w' y5 c5 v5 ∧ RwT 3 1 ((fun S w => Is inC) (Fresh w.heap.size w'.heap.size) w') (Fresh w.heap.size w'.heap.size) w' y6 c6 v6) ∧ Rd g kb o c bs s7 w' ∧ w.grownBy w' (some g) := by
  obtain ⟨r, hr⟩ : ∃ r, w.heap.size = r := ⟨_, rfl⟩
  obtain ⟨AW, eW⟩ : ∃ AW, AW = w.alloc (.cells #[.string ⟨#[]⟩, .int .i64 0, .int .i64 0, .int .i64 0, .slice none 0 0, .slice none 0 0, .int .i64 0] 51 (0, 0)) := ⟨_, rfl⟩
  have R0 : Hid (Rd g kb o c bs s AW) := by rw [eW]; exact h.al _
  have G0 : Hid (w.grownBy AW (some g)) := by rw [eW]; exact gb_alloc _ _ _
  have X0 : Hid (AW.heap[r]? = some (.cells #[.string ⟨#[]⟩, .int .i64 0, .int .i64 0, .int .i64 0, .slice none 0 0, .slice none 0 0, .int .i64 0] 51 (0, 0))) := by rw [eW, ← hr]; exact heap_alloc_last _ _
  have NG : Hid (r ≠ g) := by have := h.lt; show r ≠ g; omega
  have RG : Hid (w.heap.size ≤ r) := by show _ ≤ _; omega
  have GR : Hid (g < r) := by have := h.lt; show _ < _; omega
  have NK : Hid (r ≠ kb) := by have := h.kl; show r ≠ kb; omega
  have S0 : Hid (r < AW.heap.size) := blk_in' X0.out
  have D1 : Hid _ := C1
  have D2 : Hid _ := C2
  have D3 : Hid _ := C3
  have D4 : Hid _ := C4
  have D5 : Hid _ := C5
  have D6 : Hid _ := C6
  have D7 : Hid _ := C7
  clear h C1 C2 C3 C4 C5 C6 C7
  go_enter Tryz.func73, Tryz.ntmps73
  go_upto_region 1 with fail
  rw [← eW]
  try rw [hr]
  clear eW hr
  go_wp2_with (go_at_call 67; refine (D1.out _ R0.out).mono ?_)
  first | (rintro e w1 ⟨he, h1, g1⟩; have he' := he) | (rintro e w1 he h1 g1)
  subst he
  have R1 : Hid (Rd g kb o c bs s1 w1) := h1
  have G1 : Hid (w.grownBy w1 (some g)) := gb_trans G0.out g1
  have X1 : Hid (w1.heap[r]? = some (.cells #[.string ⟨#[]⟩, .int .i64 0, .int .i64 0, .int .i64 0, .slice none 0 0, .slice none 0 0, .int .i64 0] 51 (0, 0))) := (g1.block r (blk_in' X0.out) (by have := NG.out; intro q; cases q; exact this rfl)).trans X0.out
  have S1 : Hid (r < w1.heap.size) := blk_in' X1.out
  clear h1 g1 R0 G0 X0 S0 D1
  go_wp2_with (go_at_call 103; refine (D2.out _ R1.out).mono ?_)
  first | (rintro e w2 ⟨he, h1, g1⟩; have he' := he) | (rintro e w2 he h1 g1)
  subst he
  have R2 : Hid (Rd g kb o c bs s2 w2) := h1
  have G2 : Hid (w.grownBy w2 (some g)) := gb_trans G1.out g1
  have X2 : Hid (w2.heap[r]? = some (.cells #[.string ⟨#[]⟩, .int .i64 0, .int .i64 0, .int .i64 0, .slice none 0 0, .slice none 0 0, .int .i64 0] 51 (0, 0))) := (g1.block r (blk_in' X1.out) (by have := NG.out; intro q; cases q; exact this rfl)).trans X1.out
  have S2 : Hid (r < w2.heap.size) := blk_in' X2.out
  clear h1 g1 R1 G1 X1 S1 D2
  go_wp2_with (go_at_call 103; refine (D3.out _ R2.out).mono ?_)
  first | (rintro e w3 ⟨he, h1, g1⟩; have he' := he) | (rintro e w3 he h1 g1)
  subst he
  have R3 : Hid (Rd g kb o c bs s3 w3) := h1
  have G3 : Hid (w.grownBy w3 (some g)) := gb_trans G2.out g1
  have X3 : Hid (w3.heap[r]? = some (.cells #[.string ⟨#[]⟩, .int .i64 0, .int .i64 0, .int .i64 0, .slice none 0 0, .slice none 0 0, .int .i64 0] 51 (0, 0))) := (g1.block r (blk_in' X2.out) (by have := NG.out; intro q; cases q; exact this rfl)).trans X2.out
  have S3 : Hid (r < w3.heap.size) := blk_in' X3.out
  clear h1 g1 R2 G2 X2 S2 D3
  go_wp2_with (go_at_call 103; refine (D4.out _ R3.out).mono ?_)
  first | (rintro e w4 ⟨he, h1, g1⟩; have he' := he) | (rintro e w4 he h1 g1)
  subst he
  have R4 : Hid (Rd g kb o c bs s4 w4) := h1
  have G4 : Hid (w.grownBy w4 (some g)) := gb_trans G3.out g1
  have X4 : Hid (w4.heap[r]? = some (.cells #[.string ⟨#[]⟩, .int .i64 0, .int .i64 0, .int .i64 0, .slice none 0 0, .slice none 0 0, .int .i64 0] 51 (0, 0))) := (g1.block r (blk_in' X3.out) (by have := NG.out; intro q; cases q; exact this rfl)).trans X3.out
  have S4 : Hid (r < w4.heap.size) := blk_in' X4.out
  clear h1 g1 R3 G3 X3 S3 D4
  go_wp2_with (go_at_call 109; refine (D5.out _ R4.out).mono ?_)
  first | (rintro e w5 ⟨⟨y5, c5, he, q1⟩, h1, g1⟩; have he' := he) | (rintro e w5 y5 c5 he q1 h1 g1)
  subst he
  have R5 : Hid (Rd g kb o c bs s5 w5) := h1
  have G5 : Hid (w.grownBy w5 (some g)) := gb_trans G4.out g1
  have X5 : Hid (w5.heap[r]? = some (.cells #[.string ⟨#[]⟩, .int .i64 0, .int .i64 0, .int .i64 0, .slice none 0 0, .slice none 0 0, .int .i64 0] 51 (0, 0))) := (g1.block r (blk_in' X4.out) (by have := NG.out; intro q; cases q; exact this rfl)).trans X4.out
  have S5 : Hid (r < w5.heap.size) := blk_in' X5.out
  have Q5_5 : Hid (RwT 3 1 ((fun S w => Is inC) (Fresh (r + 1) w5.heap.size) w5) (Fresh (r + 1) w5.heap.size) w5 y5 c5 v5) := RwT.subK (keptI _) (up_sub' S4.out (Nat.le_refl _)) q1
  clear q1
  clear h1 g1 R4 G4 X4 S4 D5
  go_wp2_with (go_at_call 109; refine (D6.out _ R5.out).mono ?_)
  first | (rintro e w6 ⟨⟨y6, c6, he, q1⟩, h1, g1⟩; have he' := he) | (rintro e w6 y6 c6 he q1 h1 g1)
  subst he
  have R6 : Hid (Rd g kb o c bs s6 w6) := h1
  have G6 : Hid (w.grownBy w6 (some g)) := gb_trans G5.out g1
  have X6 : Hid (w6.heap[r]? = some (.cells #[.string ⟨#[]⟩, .int .i64 0, .int .i64 0, .int .i64 0, .slice none 0 0, .slice none 0 0, .int .i64 0] 51 (0, 0))) := (g1.block r (blk_in' X5.out) (by have := NG.out; intro q; cases q; exact this rfl)).trans X5.out
  have S6 : Hid (r < w6.heap.size) := blk_in' X6.out
  have Q5_6 : Hid (RwT 3 1 ((fun S w => Is inC) (Fresh (r + 1) w6.heap.size) w6) (Fresh (r + 1) w6.heap.size) w6 y5 c5 v5) := rw_keep (keptI _) Q5_5.out g1 (Nat.lt_succ_of_lt GR.out)
  clear Q5_5
  have Q6_6 : Hid (RwT 3 1 ((fun S w => Is inC) (Fresh (r + 1) w6.heap.size) w6) (Fresh (r + 1) w6.heap.size) w6 y6 c6 v6) := RwT.subK (keptI _) (up_sub' S5.out (Nat.le_refl _)) q1
  clear q1
  clear h1 g1 R5 G5 X5 S5 D6
  go_wp2_with (go_at_call 103; refine (D7.out _ R6.out).mono ?_)
  first | (rintro e w7 ⟨he, h1, g1⟩; have he' := he) | (rintro e w7 he h1 g1)
  subst he
  have R7 : Hid (Rd g kb o c bs s7 w7) := h1
  have G7 : Hid (w.grownBy w7 (some g)) := gb_trans G6.out g1
  have X7 : Hid (w7.heap[r]? = some (.cells #[.string ⟨#[]⟩, .int .i64 0, .int .i64 0, .int .i64 0, .slice none 0 0, .slice none 0 0, .int .i64 0] 51 (0, 0))) := (g1.block r (blk_in' X6.out) (by have := NG.out; intro q; cases q; exact this rfl)).trans X6.out
  have S7 : Hid (r < w7.heap.size) := blk_in' X7.out
  have Q5_7 : Hid (RwT 3 1 ((fun S w => Is inC) (Fresh (r + 1) w7.heap.size) w7) (Fresh (r + 1) w7.heap.size) w7 y5 c5 v5) := rw_keep (keptI _) Q5_6.out g1 (Nat.lt_succ_of_lt GR.out)
  clear Q5_6
  have Q6_7 : Hid (RwT 3 1 ((fun S w => Is inC) (Fresh (r + 1) w7.heap.size) w7) (Fresh (r + 1) w7.heap.size) w7 y6 c6 v6) := rw_keep (keptI _) Q6_6.out g1 (Nat.lt_succ_of_lt GR.out)
  clear Q6_6
  clear h1 g1 R6 G6 X6 S6 D7
  go_wp2_with (refine wpList_store_row rfl 51 _ _ rfl r _ rfl rfl _ _ X7.out (show (Tryz.prog.info? 51).map (·.size) = some 7 by kernel_rfl) rfl (by kernel_rfl) ?_)
  have hz := setRow_heap w7 r _ (#[.string v1, .int .i64 v2, .int .i64 v3, .int .i64 v4, .slice y5 v5.length c5, .slice y6 v6.length c6, .int .i64 v7]) _ _ X7.out
  refine bodyPost_ret (v := .agg #[.string v1, .int .i64 v2, .int .i64 v3, .int .i64 v4, .slice y5 v5.length c5, .slice y6 v6.length c6, .int .i64 v7]) (results_cell_row Tryz.results73 _ _ r _ _ (0, 0) _ (by first | rfl | simp [Act.put]) hz Tryz.underlying51 rfl (show (Tryz.prog.info? 51).map (·.size) = some 7 by kernel_rfl)) rfl ?_
  exact ⟨⟨y5, c5, y6, c6, rfl, rw_row (keptI _) Q5_7.out RG.out, rw_row (keptI _) Q6_7.out RG.out⟩, R7.out.row NG.out NK.out _, gb_row G7.out RG.out _⟩
set_option maxRecDepth 20000 in
set_option maxHeartbeats 8000000 in
theorem imageGt (g kb o c : Nat) (bs : List Nat) (s s1 s2 s3 s4 : RS) (v1 : ByteArray) (v2 : List CeR) (v3 : List FlR) (v4 : List JbR)
    (C1 : ∀ W, Rd g kb o c bs s W → Calls Tryz.prog 67 #[.pointer (some ⟨g, 0, none⟩)] W fun e w' => e = .returned (.string v1) ∧ Rd g kb o c bs s1 w' ∧ W.grownBy w' (some g))
    (C2 : ∀ W, Rd g kb o c bs s1 W → Calls Tryz.prog 68 #[.pointer (some ⟨g, 0, none⟩), .func (.func 69) #[.pointer (some ⟨g, 0, none⟩)] #[]] W fun e w' => (∃ y k, e = .returned (.slice y v2.length k) ∧ RwT 40 11 ((fun S w => Is ceC) (Fresh W.heap.size w'.heap.size) w') (Fresh W.heap.size w'.heap.size) w' y k v2) ∧ Rd g kb o c bs s2 w' ∧ W.grownBy w' (some g))
    (C3 : ∀ W, Rd g kb o c bs s2 W → Calls Tryz.prog 70 #[.pointer (some ⟨g, 0, none⟩), .func (.func 71) #[.pointer (some ⟨g, 0, none⟩)] #[]] W fun e w' => (∃ y k, e = .returned (.slice y v3.length k) ∧ RwT 44 8 (FlTP (Fresh W.heap.size w'.heap.size) w') (Fresh W.heap.size w'.heap.size) w' y k v3) ∧ Rd g kb o c bs s3 w' ∧ W.grownBy w' (some g))
    (C4 : ∀ W, Rd g kb o c bs s3 W → Calls Tryz.prog 72 #[.pointer (some ⟨g, 0, none⟩), .func (.func 73) #[.pointer (some ⟨g, 0, none⟩)] #[]] W fun e w' => (∃ y k, e = .returned (.slice y v4.length k) ∧ RwT 51 7 (JbTP (Fresh W.heap.size w'.heap.size) w') (Fresh W.heap.size w'.heap.size) w' y k v4) ∧ Rd g kb o c bs s4 w' ∧ W.grownBy w' (some g))
    (w : World) (h : Rd g kb o c bs s w) :
    Calls Tryz.prog 33 #[.pointer (some ⟨g, 0, none⟩)] w fun e w' => (∃ y2 c2 y3 c3 y4 c4, e = .returned (.agg #[.string v1, .slice y2 v2.length c2, .slice y3 v3.length c3, .slice y4 v4.length c4]) ∧ RwT 40 11 ((fun S w => Is ceC) (Fresh w.heap.size w'.heap.size) w') (Fresh w.heap.size w'.heap.size) w' y2 c2 v2 ∧ RwT 44 8 (FlTP (Fresh w.heap.size w'.heap.size) w') (Fresh w.heap.size w'.heap.size) w' y3 c3 v3 ∧ RwT 51 7 (JbTP (Fresh w.heap.size w'.heap.size) w') (Fresh w.heap.size w'.heap.size) w' y4 c4 v4) ∧ Rd g kb o c bs s4 w' ∧ w.grownBy w' (some g) := by
  obtain ⟨r, hr⟩ : ∃ r, w.heap.size = r := ⟨_, rfl⟩
  obtain ⟨AW, eW⟩ : ∃ AW, AW = w.alloc (.cells #[.string ⟨#[]⟩, .slice none 0 0, .slice none 0 0, .slice none 0 0] 26 (0, 0)) := ⟨_, rfl⟩
  have R0 : Hid (Rd g kb o c bs s AW) := by rw [eW]; exact h.al _
  have G0 : Hid (w.grownBy AW (some g)) := by rw [eW]; exact gb_alloc _ _ _
  have X0 : Hid (AW.heap[r]? = some (.cells #[.string ⟨#[]⟩, .slice none 0 0, .slice none 0 0, .slice none 0 0] 26 (0, 0))) := by rw [eW, ← hr]; exact heap_alloc_last _ _
  have NG : Hid (r ≠ g) := by have := h.lt; show r ≠ g; omega
  have RG : Hid (w.heap.size ≤ r) := by show _ ≤ _; omega
  have GR : Hid (g < r) := by have := h.lt; show _ < _; omega
  have NK : Hid (r ≠ kb) := by have := h.kl; show r ≠ kb; omega
  have S0 : Hid (r < AW.heap.size) := blk_in' X0.out
  have D1 : Hid _ := C1
  have D2 : Hid _ := C2
  have D3 : Hid _ := C3
  have D4 : Hid _ := C4
  clear h C1 C2 C3 C4
  go_enter Tryz.func33, Tryz.ntmps33
  go_upto_region 1 with fail
  rw [← eW]
  try rw [hr]
  clear eW hr
  go_wp2_with (go_at_call 67; refine (D1.out _ R0.out).mono ?_)
  first | (rintro e w1 ⟨he, h1, g1⟩; have he' := he) | (rintro e w1 he h1 g1)
  subst he
  have R1 : Hid (Rd g kb o c bs s1 w1) := h1
  have G1 : Hid (w.grownBy w1 (some g)) := gb_trans G0.out g1
  have X1 : Hid (w1.heap[r]? = some (.cells #[.string ⟨#[]⟩, .slice none 0 0, .slice none 0 0, .slice none 0 0] 26 (0, 0))) := (g1.block r (blk_in' X0.out) (by have := NG.out; intro q; cases q; exact this rfl)).trans X0.out
  have S1 : Hid (r < w1.heap.size) := blk_in' X1.out
  clear h1 g1 R0 G0 X0 S0 D1
  go_wp2_with (go_at_call 68; refine (D2.out _ R1.out).mono ?_)
  first | (rintro e w2 ⟨⟨y2, c2, he, q1⟩, h1, g1⟩; have he' := he) | (rintro e w2 y2 c2 he q1 h1 g1)
  subst he
  have R2 : Hid (Rd g kb o c bs s2 w2) := h1
  have G2 : Hid (w.grownBy w2 (some g)) := gb_trans G1.out g1
  have X2 : Hid (w2.heap[r]? = some (.cells #[.string ⟨#[]⟩, .slice none 0 0, .slice none 0 0, .slice none 0 0] 26 (0, 0))) := (g1.block r (blk_in' X1.out) (by have := NG.out; intro q; cases q; exact this rfl)).trans X1.out
  have S2 : Hid (r < w2.heap.size) := blk_in' X2.out
  have Q2_2 : Hid (RwT 40 11 ((fun S w => Is ceC) (Fresh (r + 1) w2.heap.size) w2) (Fresh (r + 1) w2.heap.size) w2 y2 c2 v2) := RwT.subK (keptI _) (up_sub' S1.out (Nat.le_refl _)) q1
  clear q1
  clear h1 g1 R1 G1 X1 S1 D2
  go_wp2_with (go_at_call 70; refine (D3.out _ R2.out).mono ?_)
  first | (rintro e w3 ⟨⟨y3, c3, he, q1⟩, h1, g1⟩; have he' := he) | (rintro e w3 y3 c3 he q1 h1 g1)
  subst he
  have R3 : Hid (Rd g kb o c bs s3 w3) := h1
  have G3 : Hid (w.grownBy w3 (some g)) := gb_trans G2.out g1
  have X3 : Hid (w3.heap[r]? = some (.cells #[.string ⟨#[]⟩, .slice none 0 0, .slice none 0 0, .slice none 0 0] 26 (0, 0))) := (g1.block r (blk_in' X2.out) (by have := NG.out; intro q; cases q; exact this rfl)).trans X2.out
  have S3 : Hid (r < w3.heap.size) := blk_in' X3.out
  have Q2_3 : Hid (RwT 40 11 ((fun S w => Is ceC) (Fresh (r + 1) w3.heap.size) w3) (Fresh (r + 1) w3.heap.size) w3 y2 c2 v2) := rw_keep (keptI _) Q2_2.out g1 (Nat.lt_succ_of_lt GR.out)
  clear Q2_2
  have Q3_3 : Hid (RwT 44 8 (FlTP (Fresh (r + 1) w3.heap.size) w3) (Fresh (r + 1) w3.heap.size) w3 y3 c3 v3) := RwT.subK keptF (up_sub' S2.out (Nat.le_refl _)) q1
  clear q1
  clear h1 g1 R2 G2 X2 S2 D3
  go_wp2_with (go_at_call 72; refine (D4.out _ R3.out).mono ?_)
  first | (rintro e w4 ⟨⟨y4, c4, he, q1⟩, h1, g1⟩; have he' := he) | (rintro e w4 y4 c4 he q1 h1 g1)
  subst he
  have R4 : Hid (Rd g kb o c bs s4 w4) := h1
  have G4 : Hid (w.grownBy w4 (some g)) := gb_trans G3.out g1
  have X4 : Hid (w4.heap[r]? = some (.cells #[.string ⟨#[]⟩, .slice none 0 0, .slice none 0 0, .slice none 0 0] 26 (0, 0))) := (g1.block r (blk_in' X3.out) (by have := NG.out; intro q; cases q; exact this rfl)).trans X3.out
  have S4 : Hid (r < w4.heap.size) := blk_in' X4.out
  have Q2_4 : Hid (RwT 40 11 ((fun S w => Is ceC) (Fresh (r + 1) w4.heap.size) w4) (Fresh (r + 1) w4.heap.size) w4 y2 c2 v2) := rw_keep (keptI _) Q2_3.out g1 (Nat.lt_succ_of_lt GR.out)
  clear Q2_3
  have Q3_4 : Hid (RwT 44 8 (FlTP (Fresh (r + 1) w4.heap.size) w4) (Fresh (r + 1) w4.heap.size) w4 y3 c3 v3) := rw_keep keptF Q3_3.out g1 (Nat.lt_succ_of_lt GR.out)
  clear Q3_3
  have Q4_4 : Hid (RwT 51 7 (JbTP (Fresh (r + 1) w4.heap.size) w4) (Fresh (r + 1) w4.heap.size) w4 y4 c4 v4) := RwT.subK keptJ (up_sub' S3.out (Nat.le_refl _)) q1
  clear q1
  clear h1 g1 R3 G3 X3 S3 D4
  go_wp2_with (refine wpList_store_row rfl 26 _ _ rfl r _ rfl rfl _ _ X4.out (show (Tryz.prog.info? 26).map (·.size) = some 4 by kernel_rfl) rfl (by kernel_rfl) ?_)
  have hz := setRow_heap w4 r _ (#[.string v1, .slice y2 v2.length c2, .slice y3 v3.length c3, .slice y4 v4.length c4]) _ _ X4.out
  refine bodyPost_ret (v := .agg #[.string v1, .slice y2 v2.length c2, .slice y3 v3.length c3, .slice y4 v4.length c4]) (results_cell_row Tryz.results33 _ _ r _ _ (0, 0) _ (by first | rfl | simp [Act.put]) hz Tryz.underlying26 rfl (show (Tryz.prog.info? 26).map (·.size) = some 4 by kernel_rfl)) rfl ?_
  exact ⟨⟨y2, c2, y3, c3, y4, c4, rfl, rw_row (keptI _) Q2_4.out RG.out, rw_row keptF Q3_4.out RG.out, rw_row keptJ Q4_4.out RG.out⟩, R4.out.row NG.out NK.out _, gb_row G4.out RG.out _⟩
end Go.Proofs.YtdcjngakmkgbmaaGreat.Ty
namespace Go.Proofs.YtdcjngakmkgbmaaGreat.Ty
set_option linter.unusedVariables false
set_option linter.unusedSimpArgs false
open Go.RowKit
section
variable (g kb o c : Nat) (bs : List Nat)
theorem codeMt (s : RS) (w : World) (h : Rd g kb o c bs s w) : Calls Tryz.prog 71 #[.pointer (some ⟨g, 0, none⟩)] w fun e w' => (∃ x1 c1 x2 c2, e = .returned (.agg (flC (rdFl bs s).1 (.slice x1 (rdFl bs s).1.os.length c1) (.slice x2 (rdFl bs s).1.ls.length c2)).toArray) ∧ FlT (Fresh w.heap.size w'.heap.size) w' (rdFl bs s).1 x1 c1 x2 c2) ∧ Rd g kb o c bs (rdFl bs s).2 w' ∧ w.grownBy w' (some g) :=
  (codeGt g kb o c bs s (kflA bs s) (rdNs bs 1 (kflA bs s)) (rdNs bs 2 (kflA bs s)) (rdNs bs 3 (kflA bs s)) (rdNs bs 4 (kflA bs s)) (kflB bs s) (kflD bs s) (rdFl bs s).2 _ _ _ _ _ _ _ _ (txtM g kb o c bs s) (numM g kb o c bs _) (numM g kb o c bs _) (numM g kb o c bs _) (numM g kb o c bs _) (numM g kb o c bs _) (RlOt g kb o c bs (rdOp bs) (opM _ _ _ _ _) _) (RlLt g kb o c bs (rdLp bs) (loopM _ _ _ _ _) _) w h).mono
    fun e w' ⟨⟨y1, c1, y2, c2, he, q1, q2⟩, h1, g1⟩ => ⟨⟨y1, c1, y2, c2, he, q1, q2⟩, h1, g1⟩
theorem jobMt (s : RS) (w : World) (h : Rd g kb o c bs s w) : Calls Tryz.prog 73 #[.pointer (some ⟨g, 0, none⟩)] w fun e w' => (∃ x1 c1 x2 c2, e = .returned (.agg (jbC (rdJb bs s).1 (.slice x1 (rdJb bs s).1.cs.length c1) (.slice x2 (rdJb bs s).1.bs.length c2)).toArray) ∧ JbT (Fresh w.heap.size w'.heap.size) w' (rdJb bs s).1 x1 c1 x2 c2) ∧ Rd g kb o c bs (rdJb bs s).2 w' ∧ w.grownBy w' (some g) :=
  (jobGt g kb o c bs s (kjbA bs s) (rdNs bs 1 (kjbA bs s)) (rdNs bs 2 (kjbA bs s)) (kjbB bs s) (kjbD bs s) (kjbE bs s) (rdJb bs s).2 _ _ _ _ _ _ _ (txtM g kb o c bs s) (numM g kb o c bs _) (numM g kb o c bs _) (numM g kb o c bs _) (RlNt g kb o c bs (rdN bs) (numM g kb o c bs) _) (RlNt g kb o c bs (rdN bs) (numM g kb o c bs) _) (numM g kb o c bs _) w h).mono
    fun e w' ⟨⟨y1, c1, y2, c2, he, q1, q2⟩, h1, g1⟩ => ⟨⟨y1, c1, y2, c2, he, q1, q2⟩, h1, g1⟩
end
theorem imageMt (g kb o c : Nat) (bs : List Nat) (s : RS) (w : World) (h : Rd g kb o c bs s w) : Calls Tryz.prog 33 #[.pointer (some ⟨g, 0, none⟩)] w fun e w' => (∃ x1 c1 x2 c2 x3 c3, e = .returned (.agg #[.string (rdIm bs s).1.nm, .slice x1 (rdIm bs s).1.cs.length c1, .slice x2 (rdIm bs s).1.fs.length c2, .slice x3 (rdIm bs s).1.js.length c3]) ∧ ImT (Fresh w.heap.size w'.heap.size) w' (rdIm bs s).1 x1 c1 x2 c2 x3 c3) ∧ Rd g kb o c bs (rdIm bs s).2 w' ∧ w.grownBy w' (some g) :=
  (imageGt g kb o c bs s (kimA bs s) (kimB bs s) (kimD bs s) (rdIm bs s).2 _ _ _ _ (txtM g kb o c bs s) (RlCt g kb o c bs (rdCe bs) (cellM g kb o c bs) _) (RlFt g kb o c bs (rdFl bs) (codeMt g kb o c bs) _) (RlJt g kb o c bs (rdJb bs) (jobMt g kb o c bs) _) w h).mono
    fun e w' ⟨⟨y1, c1, y2, c2, y3, c3, he, q1, q2, q3⟩, h1, g1⟩ => ⟨⟨y1, c1, y2, c2, y3, c3, he, q1, q2, q3⟩, h1, g1⟩
set_option maxRecDepth 20000 in
set_option maxHeartbeats 8000000 in
theorem readXt (kb o c : Nat) (bs : List Nat) (w : World) (hB : ByAt kb o bs w) (h4 : 4 ≤ bs.length) (hn : bs.length ≤ 4194304) (hc : bs.length < c) (hk : kb < w.heap.size) (h8 : ∀ v ∈ bs, v < 256) :
    Calls Tryz.prog 14 #[.slice (some ⟨kb, o, none⟩) bs.length c] w fun e w' => (∃ x1 c1 x2 c2 x3 c3, e = .returned (.tuple #[.agg #[.string (rdIm bs ⟨4, 0, 0⟩).1.nm, .slice x1 (rdIm bs ⟨4, 0, 0⟩).1.cs.length c1, .slice x2 (rdIm bs ⟨4, 0, 0⟩).1.fs.length c2, .slice x3 (rdIm bs ⟨4, 0, 0⟩).1.js.length c3], .int .i64 (rdEnd bs (rdIm bs ⟨4, 0, 0⟩).2).a, .int .i64 (rdEnd bs (rdIm bs ⟨4, 0, 0⟩).2).y]) ∧ ImT (Fresh w.heap.size w'.heap.size) w' (rdIm bs ⟨4, 0, 0⟩).1 x1 c1 x2 c2 x3 c3) ∧ Below w.heap.size w w' := by
  have IM : Hid (∀ g W, Rd g kb o c bs ⟨4, 0, 0⟩ W → Calls Tryz.prog 33 #[.pointer (some ⟨g, 0, none⟩)] W fun e w' => (∃ x1 c1 x2 c2 x3 c3, e = .returned (.agg #[.string (rdIm bs ⟨4, 0, 0⟩).1.nm, .slice x1 (rdIm bs ⟨4, 0, 0⟩).1.cs.length c1, .slice x2 (rdIm bs ⟨4, 0, 0⟩).1.fs.length c2, .slice x3 (rdIm bs ⟨4, 0, 0⟩).1.js.length c3]) ∧ ImT (Fresh W.heap.size w'.heap.size) w' (rdIm bs ⟨4, 0, 0⟩).1 x1 c1 x2 c2 x3 c3) ∧ Rd g kb o c bs (rdIm bs ⟨4, 0, 0⟩).2 w' ∧ W.grownBy w' (some g)) := fun g W h => imageMt g kb o c bs _ W h
  generalize (rdIm bs ⟨4, 0, 0⟩).1 = m at *
  generalize (rdIm bs ⟨4, 0, 0⟩).2 = t at *
  obtain ⟨u, eu⟩ : ∃ u, rdEnd bs t = u := ⟨_, rfl⟩
  rw [eu]
  have RE : Hid (rdEnd bs t = u) := eu
  clear eu
  obtain ⟨G, hG⟩ : ∃ G, w.heap.size = G := ⟨_, rfl⟩
  obtain ⟨AW, eW⟩ : ∃ AW, AW = w.alloc (.cells #[.string ⟨#[]⟩, .slice none 0 0, .slice none 0 0, .slice none 0 0] 26 (0, 0)) := ⟨_, rfl⟩
  obtain ⟨AR, eR⟩ : ∃ AR, AR = AW.alloc (.cells #[.slice (some ⟨kb, o, none⟩) bs.length c, .int .i64 4, .int .i64 0, .int .i64 0] 88 (0, 0)) := ⟨_, rfl⟩
  have SW : AW.heap.size = G + 1 := by rw [eW, ← hG]; simp
  have AB : Hid (Below w.heap.size w AW) := by rw [eW]; exact (Below.refl _ _).alloc (Nat.le_refl _) _
  have AX : Hid (AW.heap[G]? = some (.cells #[.string ⟨#[]⟩, .slice none 0 0, .slice none 0 0, .slice none 0 0] 26 (0, 0))) := by rw [eW, ← hG]; exact heap_alloc_last _ _
  have RX : Hid (AR.heap[G + 1]? = some (.cells #[.slice (some ⟨kb, o, none⟩) bs.length c, .int .i64 4, .int .i64 0, .int .i64 0] 88 (0, 0))) := by rw [eR, ← SW]; exact heap_alloc_last _ _
  have GR : Hid (AW.grownBy AR none) := by rw [eR]; exact gb_alloc _ _ _
  have KG : Hid (kb < G) := by show _ < _; omega
  have R0 : Hid (Rd (G + 1) kb o c bs ⟨4, 0, 0⟩ AR) := ⟨RdAt.mk' RX.out, fun j v hj => GR.out.cell ((AB.out.cell hk).trans (hB j v hj)) (by simp), h4, hn, hc, by omega, by have := GR.out.size; omega, h8⟩
  have B0 : Hid (Below w.heap.size w AR) := AB.out.trans ⟨GR.out.os, GR.out.tape, GR.out.output, GR.out.size, fun k hk => GR.out.block k (by omega) (by simp)⟩
  have X0 : Hid (AR.heap[G]? = some (.cells #[.string ⟨#[]⟩, .slice none 0 0, .slice none 0 0, .slice none 0 0] 26 (0, 0))) := (GR.out.block _ (by omega) (by simp)).trans AX.out
  have HG : Hid (w.heap.size = G) := hG
  clear AB AX RX GR hB h4 hn hc hk h8
  go_enter Tryz.func14, Tryz.ntmps14
  go_upto_region 1 with fail
  rw [← eW]
  clear eW
  go_upto_region 2 with fail
  try rw [SW]
  try rw [← eR]
  clear eR hG
  go_wp2_with (go_at_call 33; refine (IM.out _ _ R0.out).mono ?_)
  first | (rintro e w1 ⟨⟨x1, c1, x2, c2, x3, c3, he, q1⟩, h1, g1⟩; have he' := he) | (rintro e w1 x1 c1 x2 c2 x3 c3 he q1 h1 g1)
  subst he
  obtain ⟨H, hH⟩ : ∃ H, w1.heap.size = H := ⟨_, rfl⟩
  obtain ⟨W2, e2⟩ : ∃ W2, W2 = w1.alloc (.cells #[.string m.nm, .slice x1 m.cs.length c1, .slice x2 m.fs.length c2, .slice x3 m.js.length c3] 26 (0, 0)) := ⟨_, rfl⟩
  have YX : Hid (W2.heap[H]? = some (.cells #[.string m.nm, .slice x1 m.cs.length c1, .slice x2 m.fs.length c2, .slice x3 m.js.length c3] 26 (0, 0))) := by rw [e2, ← hH]; exact heap_alloc_last _ _
  have S1 := g1.size
  have SR : Hid (G + 2 ≤ AR.heap.size) := by have := blk_in' R0.out.at_; show _ ≤ _; omega
  have HL : Hid (G + 2 ≤ H) := by have := SR.out; show _ ≤ _; omega
  have G2 : Hid (w1.grownBy W2 none) := by rw [e2]; exact gb_alloc _ _ _
  have R2 : Hid (Rd (G + 1) kb o c bs t W2) := h1.other G2.out h1.lt
  have B1 : Hid (Below w.heap.size w w1) := gb_below (by have := HG.out; omega) B0.out g1
  have B2 : Hid (Below w.heap.size w W2) := B1.out.trans ⟨G2.out.os, G2.out.tape, G2.out.output, G2.out.size, fun k hk => G2.out.block k (by have := B1.out.size; omega) (by simp)⟩
  have X2 : Hid (W2.heap[G]? = some (.cells #[.string ⟨#[]⟩, .slice none 0 0, .slice none 0 0, .slice none 0 0] 26 (0, 0))) := (G2.out.block G (by have := HL.out; omega) (by simp)).trans ((g1.block G (by have := SR.out; omega) (by simp)).trans X0.out)
  have Q2 : Hid (ImT (Fresh (G + 2) H) W2 m x1 c1 x2 c2 x3 c3) := (q1.sub (up_sub' SR.out (by omega))).fr (fun q hq => (G2.out.block _ (by have := hq.2; omega) (by simp)))
  clear q1 h1 g1 R0 B0 X0 B1 IM G2 S1 SR
  go_upto_region 3 with fail
  rw [← e2]
  clear e2 hH
  obtain ⟨p, a, y⟩ := t
  have RX : Hid (W2.heap[G + 1]? = some (.cells #[.slice (some ⟨kb, o, none⟩) bs.length c, .int .i64 p, .int .i64 a, .int .i64 y] 88 (0, 0))) := R2.out.at_
  have LE : Hid (p ≤ bs.length) := R2.out.le
  obtain ⟨d0, d1, d2, d3⟩ := R2.out.at_.cs
  by_cases hp : p < bs.length
  · have hp' : (p : Int) < bs.length := by omega
    have FX : Hid (Calls Tryz.prog 34 #[.pointer (some ⟨G + 1, 0, none⟩), .int .i64 p, .int .i64 3] W2 fun e w' => e = .returned (.tuple #[]) ∧ RdAt (G + 1) (some ⟨kb, o, none⟩) bs.length c p (if y = 0 then (p : Int) else a) (if y = 0 then 3 else y) w' ∧ W2.grownBy w' (some (G + 1))) := failX (G + 1) _ _ _ p a y p 3 W2 R2.out.at_
    have UV : Hid (u.a = (if y = 0 then (p : Int) else a) ∧ u.y = (if y = 0 then 3 else y)) := by
      have q := RE.out
      unfold rdEnd at q
      rw [if_pos (show (⟨p, a, y⟩ : RS).p < bs.length from hp)] at q
      show _ ∧ _
      rw [← q]
      by_cases z : y = 0 <;> simp [z]
    generalize (if y = 0 then (p : Int) else a) = a2 at *
    generalize (if y = 0 then (3 : Int) else y) = y2 at *
    clear hp
    go_upto_region 4 with fail
    go_wp2_with (go_at_call 34; refine (FX.out).mono ?_)
    first | (rintro e w3 ⟨he, h3, g3⟩; have he' := he) | (rintro e w3 he h3 g3)
    subst he
    have YH := blk_in' YX.out
    have YX : Hid (w3.heap[H]? = some (.cells #[.string m.nm, .slice x1 m.cs.length c1, .slice x2 m.fs.length c2, .slice x3 m.js.length c3] 26 (0, 0))) := (g3.block H YH (by intro q; cases q; have := HL.out; omega)).trans YX.out
    have RX : Hid (w3.heap[G + 1]? = some (.cells #[.slice (some ⟨kb, o, none⟩) bs.length c, .int .i64 p, .int .i64 a2, .int .i64 y2] 88 (0, 0))) := h3
    have XX : Hid (w3.heap[G]? = some (.cells #[.string ⟨#[]⟩, .slice none 0 0, .slice none 0 0, .slice none 0 0] 26 (0, 0))) := (g3.block G (by have := HL.out; omega) (by intro q; cases q)).trans X2.out
    have BB : Hid (Below w.heap.size w w3) := gb_below (by have := HG.out; omega) B2.out g3
    have QQ : Hid (ImT (Fresh (G + 2) H) w3 m x1 c1 x2 c2 x3 c3) := Q2.out.fr (fun q hq => (g3.block _ (by have := hq.2; omega) (by intro e; have e := Option.some.inj e; have := hq.1; omega)))
    clear h3 g3 YH FX R2 B2 X2 Q2 d0 d1 d2 d3
    go_upto_region 5 with fail
    refine wp_region_J 13 (fun V => V.heap[H]? = some (.cells #[.string m.nm, .slice x1 m.cs.length c1, .slice x2 m.fs.length c2, .slice x3 m.js.length c3] 26 (0, 0)) ∧ V.heap[G + 1]? = some (.cells #[.slice (some ⟨kb, o, none⟩) bs.length c, .int .i64 p, .int .i64 a2, .int .i64 y2] 88 (0, 0))) (by kernel_rfl) ⟨YX.out, RX.out⟩ (fun hHeld => ?_)
    refine wpAnyJ_take (i := 0) (v := .agg #[.string m.nm, .slice x1 m.cs.length c1, .slice x2 m.fs.length c2, .slice x3 m.js.length c3]) rfl (by kernel_rfl) (by kernel_rfl) (by kernel_rfl) (by kernel_rfl) (fun _ _ _ h => h) (Or.inl ⟨by rfl, fun V hV => ?_⟩) hHeld ?_
    · have k0 : V.cell? ⟨H, 0, none⟩ = some (.string m.nm) := by simp [World.cell?, hV.1]
      have k1 : V.cell? ⟨H, 1, none⟩ = some (.slice x1 m.cs.length c1) := by simp [World.cell?, hV.1]
      have k2 : V.cell? ⟨H, 2, none⟩ = some (.slice x2 m.fs.length c2) := by simp [World.cell?, hV.1]
      have k3 : V.cell? ⟨H, 3, none⟩ = some (.slice x3 m.js.length c3) := by simp [World.cell?, hV.1]
      go_simp
    simp only [Act.put, List.setIfInBounds_toArray, List.getElem_toArray, List.getElem_cons_zero, List.getElem_cons_succ, List.set_cons_zero, List.set_cons_succ]
    refine wpAnyJ_take (i := 1) (v := .pointer (some ⟨G + 1, 0, none⟩)) rfl (by kernel_rfl) (by kernel_rfl) (by kernel_rfl) (by kernel_rfl) (fun _ _ _ h => h) (Or.inl ⟨by rfl, fun V hV => ?_⟩) hHeld ?_
    · go_simp
    simp only [Act.put, List.setIfInBounds_toArray, List.getElem_toArray, List.getElem_cons_zero, List.getElem_cons_succ, List.set_cons_zero, List.set_cons_succ]
    refine wpAnyJ_take (i := 2) (v := .pointer (some ⟨G + 1, 0, none⟩)) rfl (by kernel_rfl) (by kernel_rfl) (by kernel_rfl) (by kernel_rfl) (fun _ _ _ h => h) (Or.inl ⟨by rfl, fun V hV => ?_⟩) hHeld ?_
    · go_simp
    simp only [Act.put, List.setIfInBounds_toArray, List.getElem_toArray, List.getElem_cons_zero, List.getElem_cons_succ, List.set_cons_zero, List.set_cons_succ]
    refine wpAnyJ_take (i := 3) (v := .pointer (some ⟨G + 1, 2, none⟩)) rfl (by kernel_rfl) (by kernel_rfl) (by kernel_rfl) (by kernel_rfl) (fun _ _ _ h => h) (Or.inl ⟨by rfl, fun V hV => ?_⟩) hHeld ?_
    · go_simp
    simp only [Act.put, List.setIfInBounds_toArray, List.getElem_toArray, List.getElem_cons_zero, List.getElem_cons_succ, List.set_cons_zero, List.set_cons_succ]
    refine wpAnyJ_take (i := 4) (v := .pointer (some ⟨G + 1, 2, none⟩)) rfl (by kernel_rfl) (by kernel_rfl) (by kernel_rfl) (by kernel_rfl) (fun _ _ _ h => h) (Or.inl ⟨by rfl, fun V hV => ?_⟩) hHeld ?_
    · go_simp
    simp only [Act.put, List.setIfInBounds_toArray, List.getElem_toArray, List.getElem_cons_zero, List.getElem_cons_succ, List.set_cons_zero, List.set_cons_succ]
    refine wpAnyJ_take (i := 5) (v := .int .i64 a2) rfl (by kernel_rfl) (by kernel_rfl) (by kernel_rfl) (by kernel_rfl) (fun _ _ _ h => h) (Or.inl ⟨by rfl, fun V hV => ?_⟩) hHeld ?_
    · have k2 : V.cell? ⟨G + 1, 2, none⟩ = some (.int .i64 a2) := by simp [World.cell?, hV.2]
      go_simp
    simp only [Act.put, List.setIfInBounds_toArray, List.getElem_toArray, List.getElem_cons_zero, List.getElem_cons_succ, List.set_cons_zero, List.set_cons_succ]
    refine wpAnyJ_take (i := 6) (v := .pointer (some ⟨G + 1, 0, none⟩)) rfl (by kernel_rfl) (by kernel_rfl) (by kernel_rfl) (by kernel_rfl) (fun _ _ _ h => h) (Or.inl ⟨by rfl, fun V hV => ?_⟩) hHeld ?_
    · go_simp
    simp only [Act.put, List.setIfInBounds_toArray, List.getElem_toArray, List.getElem_cons_zero, List.getElem_cons_succ, List.set_cons_zero, List.set_cons_succ]
    refine wpAnyJ_take (i := 7) (v := .pointer (some ⟨G + 1, 0, none⟩)) rfl (by kernel_rfl) (by kernel_rfl) (by kernel_rfl) (by kernel_rfl) (fun _ _ _ h => h) (Or.inl ⟨by rfl, fun V hV => ?_⟩) hHeld ?_
    · go_simp
    simp only [Act.put, List.setIfInBounds_toArray, List.getElem_toArray, List.getElem_cons_zero, List.getElem_cons_succ, List.set_cons_zero, List.set_cons_succ]
    refine wpAnyJ_take (i := 8) (v := .pointer (some ⟨G + 1, 2, none⟩)) rfl (by kernel_rfl) (by kernel_rfl) (by kernel_rfl) (by kernel_rfl) (fun _ _ _ h => h) (Or.inl ⟨by rfl, fun V hV => ?_⟩) hHeld ?_
    · go_simp
    simp only [Act.put, List.setIfInBounds_toArray, List.getElem_toArray, List.getElem_cons_zero, List.getElem_cons_succ, List.set_cons_zero, List.set_cons_succ]
    refine wpAnyJ_take (i := 9) (v := .pointer (some ⟨G + 1, 3, none⟩)) rfl (by kernel_rfl) (by kernel_rfl) (by kernel_rfl) (by kernel_rfl) (fun _ _ _ h => h) (Or.inl ⟨by rfl, fun V hV => ?_⟩) hHeld ?_
    · go_simp
    simp only [Act.put, List.setIfInBounds_toArray, List.getElem_toArray, List.getElem_cons_zero, List.getElem_cons_succ, List.set_cons_zero, List.set_cons_succ]
    refine wpAnyJ_take (i := 10) (v := .int .i64 y2) rfl (by kernel_rfl) (by kernel_rfl) (by kernel_rfl) (by kernel_rfl) (fun _ _ _ h => h) (Or.inl ⟨by rfl, fun V hV => ?_⟩) hHeld ?_
    · have k3 : V.cell? ⟨G + 1, 3, none⟩ = some (.int .i64 y2) := by simp [World.cell?, hV.2]
      go_simp
    simp only [Act.put, List.setIfInBounds_toArray, List.getElem_toArray, List.getElem_cons_zero, List.getElem_cons_succ, List.set_cons_zero, List.set_cons_succ]
    have X4 : w3.drew.heap[G]? = some (.cells #[.string ⟨#[]⟩, .slice none 0 0, .slice none 0 0, .slice none 0 0] 26 (0, 0)) := XX.out
    refine wpAnyJ_one (i := 11) (by kernel_rfl) rfl (fun K hK => ?_)
    rw [if_pos (by rfl)]
    refine wp_store_row 26 (.tmp 2) (.tmp 25) rfl G #[.string m.nm, .slice x1 m.cs.length c1, .slice x2 m.fs.length c2, .slice x3 m.js.length c3] rfl rfl 26 _ X4 (show (Tryz.prog.info? 26).map (·.size) = some 4 by kernel_rfl) rfl (by kernel_rfl) ?_
    refine hK.out _ _ (fun _ => ⟨(setRow_other _ _ _ _ (by have := HL.out; omega)).trans YX.out, (setRow_other _ _ _ _ (by omega)).trans RX.out⟩) ?_
    clear hK K
    simp only [Act.put, List.setIfInBounds_toArray, List.getElem_toArray, List.getElem_cons_zero, List.getElem_cons_succ, List.set_cons_zero, List.set_cons_succ]
    refine wpAnyJ_one (i := 12) (by kernel_rfl) rfl (fun K hK => ?_)
    go_simp
    refine hK.out _ _ (fun _ => ⟨(setRow_other _ _ _ _ (by have := HL.out; omega)).trans YX.out, (setRow_other _ _ _ _ (by omega)).trans RX.out⟩) ?_
    clear hK K
    refine wpAnyJ_one (i := 13) (by kernel_rfl) rfl (fun K hK => ?_)
    go_simp
    refine hK.out _ _ (fun h => nomatch (show true = false from h)) ?_
    clear hK K
    refine wpAnyJ_done (by kernel_rfl) ?_ _
    have hz := setRow_heap w3.drew G _ (#[.string m.nm, .slice x1 m.cs.length c1, .slice x2 m.fs.length c2, .slice x3 m.js.length c3]) _ _ X4
    have BZ : Hid (Below w.heap.size w (w3.drew.setRow G #[.string m.nm, .slice x1 m.cs.length c1, .slice x2 m.fs.length c2, .slice x3 m.js.length c3])) := row_below_d BB.out.drew (by have := HG.out; omega) _
    have QZ : Hid (ImT (Fresh (G + 2) H) (w3.drew.setRow G #[.string m.nm, .slice x1 m.cs.length c1, .slice x2 m.fs.length c2, .slice x3 m.js.length c3]) m x1 c1 x2 c2 x3 c3) := QQ.out.fr (fun q hq => (setRow_other _ _ _ _ (by have := hq.1; omega)))
    have SZ : Hid (H ≤ (w3.drew.setRow G #[.string m.nm, .slice x1 m.cs.length c1, .slice x2 m.fs.length c2, .slice x3 m.js.length c3]).heap.size) := by have := blk_in' YX.out; show _ ≤ _; simpa [World.setRow] using Nat.le_of_lt this
    generalize w3.drew.setRow G #[.string m.nm, .slice x1 m.cs.length c1, .slice x2 m.fs.length c2, .slice x3 m.js.length c3] = W5 at hz BZ QZ SZ ⊢
    clear hHeld X4
    go_step
    go_wp2
    refine bodyPost_ret (v := .tuple #[.agg #[.string m.nm, .slice x1 m.cs.length c1, .slice x2 m.fs.length c2, .slice x3 m.js.length c3], .int .i64 a2, .int .i64 y2]) (results_cell_row_2 Tryz.results14 _ _ G _ _ (0, 0) _ (by first | rfl | simp [Act.put]) hz Tryz.underlying26 rfl (show (Tryz.prog.info? 26).map (·.size) = some 4 by kernel_rfl)) rfl ?_
    obtain ⟨ua, uy⟩ := UV.out
    first | exact ⟨⟨x1, c1, x2, c2, x3, ⟨c3, by rw [ua, uy]⟩, QZ.out.sub (up_sub' (by have := HG.out; omega) SZ.out)⟩, BZ.out⟩ | exact ⟨⟨x1, c1, x2, c2, x3, c3, by rw [ua, uy], QZ.out.sub (up_sub' (by have := HG.out; omega) SZ.out)⟩, BZ.out⟩
  · have hp' : ¬ (p : Int) < bs.length := by omega
    have UV : Hid (u.a = a ∧ u.y = y) := by
      have q := RE.out
      unfold rdEnd at q
      rw [if_neg (show ¬ (⟨p, a, y⟩ : RS).p < bs.length from hp)] at q
      show _ ∧ _
      rw [← q]
      exact ⟨rfl, rfl⟩
    clear hp
    have BB : Hid (Below w.heap.size w W2) := B2.out
    have QQ : Hid (ImT (Fresh (G + 2) H) W2 m x1 c1 x2 c2 x3 c3) := Q2.out
    have XX : Hid (W2.heap[G]? = some (.cells #[.string ⟨#[]⟩, .slice none 0 0, .slice none 0 0, .slice none 0 0] 26 (0, 0))) := X2.out
    go_upto_region 5 with fail
    refine wp_region_J 13 (fun V => V.heap[H]? = some (.cells #[.string m.nm, .slice x1 m.cs.length c1, .slice x2 m.fs.length c2, .slice x3 m.js.length c3] 26 (0, 0)) ∧ V.heap[G + 1]? = some (.cells #[.slice (some ⟨kb, o, none⟩) bs.length c, .int .i64 p, .int .i64 a, .int .i64 y] 88 (0, 0))) (by kernel_rfl) ⟨YX.out, RX.out⟩ (fun hHeld => ?_)
    refine wpAnyJ_take (i := 0) (v := .agg #[.string m.nm, .slice x1 m.cs.length c1, .slice x2 m.fs.length c2, .slice x3 m.js.length c3]) rfl (by kernel_rfl) (by kernel_rfl) (by kernel_rfl) (by kernel_rfl) (fun _ _ _ h => h) (Or.inl ⟨by rfl, fun V hV => ?_⟩) hHeld ?_
    · have k0 : V.cell? ⟨H, 0, none⟩ = some (.string m.nm) := by simp [World.cell?, hV.1]
      have k1 : V.cell? ⟨H, 1, none⟩ = some (.slice x1 m.cs.length c1) := by simp [World.cell?, hV.1]
      have k2 : V.cell? ⟨H, 2, none⟩ = some (.slice x2 m.fs.length c2) := by simp [World.cell?, hV.1]
      have k3 : V.cell? ⟨H, 3, none⟩ = some (.slice x3 m.js.length c3) := by simp [World.cell?, hV.1]
      go_simp
    simp only [Act.put, List.setIfInBounds_toArray, List.getElem_toArray, List.getElem_cons_zero, List.getElem_cons_succ, List.set_cons_zero, List.set_cons_succ]
    refine wpAnyJ_take (i := 1) (v := .pointer (some ⟨G + 1, 0, none⟩)) rfl (by kernel_rfl) (by kernel_rfl) (by kernel_rfl) (by kernel_rfl) (fun _ _ _ h => h) (Or.inl ⟨by rfl, fun V hV => ?_⟩) hHeld ?_
    · go_simp
    simp only [Act.put, List.setIfInBounds_toArray, List.getElem_toArray, List.getElem_cons_zero, List.getElem_cons_succ, List.set_cons_zero, List.set_cons_succ]
    refine wpAnyJ_take (i := 2) (v := .pointer (some ⟨G + 1, 0, none⟩)) rfl (by kernel_rfl) (by kernel_rfl) (by kernel_rfl) (by kernel_rfl) (fun _ _ _ h => h) (Or.inl ⟨by rfl, fun V hV => ?_⟩) hHeld ?_
    · go_simp
    simp only [Act.put, List.setIfInBounds_toArray, List.getElem_toArray, List.getElem_cons_zero, List.getElem_cons_succ, List.set_cons_zero, List.set_cons_succ]
    refine wpAnyJ_take (i := 3) (v := .pointer (some ⟨G + 1, 2, none⟩)) rfl (by kernel_rfl) (by kernel_rfl) (by kernel_rfl) (by kernel_rfl) (fun _ _ _ h => h) (Or.inl ⟨by rfl, fun V hV => ?_⟩) hHeld ?_
    · go_simp
    simp only [Act.put, List.setIfInBounds_toArray, List.getElem_toArray, List.getElem_cons_zero, List.getElem_cons_succ, List.set_cons_zero, List.set_cons_succ]
    refine wpAnyJ_take (i := 4) (v := .pointer (some ⟨G + 1, 2, none⟩)) rfl (by kernel_rfl) (by kernel_rfl) (by kernel_rfl) (by kernel_rfl) (fun _ _ _ h => h) (Or.inl ⟨by rfl, fun V hV => ?_⟩) hHeld ?_
    · go_simp
    simp only [Act.put, List.setIfInBounds_toArray, List.getElem_toArray, List.getElem_cons_zero, List.getElem_cons_succ, List.set_cons_zero, List.set_cons_succ]
    refine wpAnyJ_take (i := 5) (v := .int .i64 a) rfl (by kernel_rfl) (by kernel_rfl) (by kernel_rfl) (by kernel_rfl) (fun _ _ _ h => h) (Or.inl ⟨by rfl, fun V hV => ?_⟩) hHeld ?_
    · have k2 : V.cell? ⟨G + 1, 2, none⟩ = some (.int .i64 a) := by simp [World.cell?, hV.2]
      go_simp
    simp only [Act.put, List.setIfInBounds_toArray, List.getElem_toArray, List.getElem_cons_zero, List.getElem_cons_succ, List.set_cons_zero, List.set_cons_succ]
    refine wpAnyJ_take (i := 6) (v := .pointer (some ⟨G + 1, 0, none⟩)) rfl (by kernel_rfl) (by kernel_rfl) (by kernel_rfl) (by kernel_rfl) (fun _ _ _ h => h) (Or.inl ⟨by rfl, fun V hV => ?_⟩) hHeld ?_
    · go_simp
    simp only [Act.put, List.setIfInBounds_toArray, List.getElem_toArray, List.getElem_cons_zero, List.getElem_cons_succ, List.set_cons_zero, List.set_cons_succ]
    refine wpAnyJ_take (i := 7) (v := .pointer (some ⟨G + 1, 0, none⟩)) rfl (by kernel_rfl) (by kernel_rfl) (by kernel_rfl) (by kernel_rfl) (fun _ _ _ h => h) (Or.inl ⟨by rfl, fun V hV => ?_⟩) hHeld ?_
    · go_simp
    simp only [Act.put, List.setIfInBounds_toArray, List.getElem_toArray, List.getElem_cons_zero, List.getElem_cons_succ, List.set_cons_zero, List.set_cons_succ]
    refine wpAnyJ_take (i := 8) (v := .pointer (some ⟨G + 1, 2, none⟩)) rfl (by kernel_rfl) (by kernel_rfl) (by kernel_rfl) (by kernel_rfl) (fun _ _ _ h => h) (Or.inl ⟨by rfl, fun V hV => ?_⟩) hHeld ?_
    · go_simp
    simp only [Act.put, List.setIfInBounds_toArray, List.getElem_toArray, List.getElem_cons_zero, List.getElem_cons_succ, List.set_cons_zero, List.set_cons_succ]
    refine wpAnyJ_take (i := 9) (v := .pointer (some ⟨G + 1, 3, none⟩)) rfl (by kernel_rfl) (by kernel_rfl) (by kernel_rfl) (by kernel_rfl) (fun _ _ _ h => h) (Or.inl ⟨by rfl, fun V hV => ?_⟩) hHeld ?_
    · go_simp
    simp only [Act.put, List.setIfInBounds_toArray, List.getElem_toArray, List.getElem_cons_zero, List.getElem_cons_succ, List.set_cons_zero, List.set_cons_succ]
    refine wpAnyJ_take (i := 10) (v := .int .i64 y) rfl (by kernel_rfl) (by kernel_rfl) (by kernel_rfl) (by kernel_rfl) (fun _ _ _ h => h) (Or.inl ⟨by rfl, fun V hV => ?_⟩) hHeld ?_
    · have k3 : V.cell? ⟨G + 1, 3, none⟩ = some (.int .i64 y) := by simp [World.cell?, hV.2]
      go_simp
    simp only [Act.put, List.setIfInBounds_toArray, List.getElem_toArray, List.getElem_cons_zero, List.getElem_cons_succ, List.set_cons_zero, List.set_cons_succ]
    have X4 : W2.drew.heap[G]? = some (.cells #[.string ⟨#[]⟩, .slice none 0 0, .slice none 0 0, .slice none 0 0] 26 (0, 0)) := XX.out
    refine wpAnyJ_one (i := 11) (by kernel_rfl) rfl (fun K hK => ?_)
    rw [if_pos (by rfl)]
    refine wp_store_row 26 (.tmp 2) (.tmp 25) rfl G #[.string m.nm, .slice x1 m.cs.length c1, .slice x2 m.fs.length c2, .slice x3 m.js.length c3] rfl rfl 26 _ X4 (show (Tryz.prog.info? 26).map (·.size) = some 4 by kernel_rfl) rfl (by kernel_rfl) ?_
    refine hK.out _ _ (fun _ => ⟨(setRow_other _ _ _ _ (by have := HL.out; omega)).trans YX.out, (setRow_other _ _ _ _ (by omega)).trans RX.out⟩) ?_
    clear hK K
    simp only [Act.put, List.setIfInBounds_toArray, List.getElem_toArray, List.getElem_cons_zero, List.getElem_cons_succ, List.set_cons_zero, List.set_cons_succ]
    refine wpAnyJ_one (i := 12) (by kernel_rfl) rfl (fun K hK => ?_)
    go_simp
    refine hK.out _ _ (fun _ => ⟨(setRow_other _ _ _ _ (by have := HL.out; omega)).trans YX.out, (setRow_other _ _ _ _ (by omega)).trans RX.out⟩) ?_
    clear hK K
    refine wpAnyJ_one (i := 13) (by kernel_rfl) rfl (fun K hK => ?_)
    go_simp
    refine hK.out _ _ (fun h => nomatch (show true = false from h)) ?_
    clear hK K
    refine wpAnyJ_done (by kernel_rfl) ?_ _
    have hz := setRow_heap W2.drew G _ (#[.string m.nm, .slice x1 m.cs.length c1, .slice x2 m.fs.length c2, .slice x3 m.js.length c3]) _ _ X4
    have BZ : Hid (Below w.heap.size w (W2.drew.setRow G #[.string m.nm, .slice x1 m.cs.length c1, .slice x2 m.fs.length c2, .slice x3 m.js.length c3])) := row_below_d BB.out.drew (by have := HG.out; omega) _
    have QZ : Hid (ImT (Fresh (G + 2) H) (W2.drew.setRow G #[.string m.nm, .slice x1 m.cs.length c1, .slice x2 m.fs.length c2, .slice x3 m.js.length c3]) m x1 c1 x2 c2 x3 c3) := QQ.out.fr (fun q hq => (setRow_other _ _ _ _ (by have := hq.1; omega)))
    have SZ : Hid (H ≤ (W2.drew.setRow G #[.string m.nm, .slice x1 m.cs.length c1, .slice x2 m.fs.length c2, .slice x3 m.js.length c3]).heap.size) := by have := blk_in' YX.out; show _ ≤ _; simpa [World.setRow] using Nat.le_of_lt this
    generalize W2.drew.setRow G #[.string m.nm, .slice x1 m.cs.length c1, .slice x2 m.fs.length c2, .slice x3 m.js.length c3] = W5 at hz BZ QZ SZ ⊢
    clear hHeld X4
    go_step
    go_wp2
    refine bodyPost_ret (v := .tuple #[.agg #[.string m.nm, .slice x1 m.cs.length c1, .slice x2 m.fs.length c2, .slice x3 m.js.length c3], .int .i64 a, .int .i64 y]) (results_cell_row_2 Tryz.results14 _ _ G _ _ (0, 0) _ (by first | rfl | simp [Act.put]) hz Tryz.underlying26 rfl (show (Tryz.prog.info? 26).map (·.size) = some 4 by kernel_rfl)) rfl ?_
    obtain ⟨ua, uy⟩ := UV.out
    first | exact ⟨⟨x1, c1, x2, c2, x3, ⟨c3, by rw [ua, uy]⟩, QZ.out.sub (up_sub' (by have := HG.out; omega) SZ.out)⟩, BZ.out⟩ | exact ⟨⟨x1, c1, x2, c2, x3, c3, by rw [ua, uy], QZ.out.sub (up_sub' (by have := HG.out; omega) SZ.out)⟩, BZ.out⟩
end Go.Proofs.YtdcjngakmkgbmaaGreat.Ty
namespace Go.Proofs.YtdcjngakmkgbmaaGreat.Ty
set_option linter.unusedVariables false
set_option linter.unusedSimpArgs false
open Go.RowKit
/-- What is answered: nothing with a fault, else an image in memory of its own. -/
def DecT (m : ImR) (f : Int) (lo : Nat) (w' : World) (z : Value) : Prop := (f ≠ 0 → z = .agg #[.string ⟨#[]⟩, .slice none 0 0, .slice none 0 0, .slice none 0 0]) ∧ (f = 0 → ∃ x1 c1 x2 c2 x3 c3, z = .agg #[.string m.nm, .slice x1 m.cs.length c1, .slice x2 m.fs.length c2, .slice x3 m.js.length c3] ∧ ImT (Fresh lo w'.heap.size) w' m x1 c1 x2 c2 x3 c3)
set_option maxRecDepth 20000 in
set_option maxHeartbeats 8000000 in
theorem decWT (x : Option Addr) (c n : Nat) (w : World) (p1 n1 p2 n2 : Int) (m : ImR) (D : Int × Int) (hc : n ≤ c) (hl : n1 = 0 → 8 ≤ n ∧ n ≤ 4194304)
    (hD : D = if n1 ≠ 0 then (p1, n1) else if n2 ≠ 0 then (p2, n2) else (0, (chk m).2.2)) (h0 : n2 = 0 → p2 = 0) (hM : n1 = 0 → n2 = 0 → ImOk m)
    (hF : ∀ W, Below w.heap.size w W → Calls Tryz.prog 13 #[.slice x n c] W fun e w' => e = .returned (.tuple #[.int .i64 p1, .int .i64 n1]) ∧ Below W.heap.size W w')
    (hR : n1 = 0 → ∀ W, Below w.heap.size w W → Calls Tryz.prog 14 #[.slice x (n - 4) c] W fun e w' => (∃ x1 c1 x2 c2 x3 c3, e = .returned (.tuple #[.agg #[.string m.nm, .slice x1 m.cs.length c1, .slice x2 m.fs.length c2, .slice x3 m.js.length c3], .int .i64 p2, .int .i64 n2]) ∧ ImT (Fresh W.heap.size w'.heap.size) w' m x1 c1 x2 c2 x3 c3) ∧ Below W.heap.size W w') :
    Calls Tryz.prog 6 #[.slice x n c] w fun e w' => (∃ z, e = .returned (.tuple #[z, .int .i64 D.1, .int .i64 D.2]) ∧ DecT m D.2 w.heap.size w' z) ∧ Below w.heap.size w w' := by
  have FR : Hid (∀ W, Below w.heap.size w W → Calls Tryz.prog 13 #[.slice x n c] W fun e w' => e = .returned (.tuple #[.int .i64 p1, .int .i64 n1]) ∧ Below W.heap.size W w') := hF
  have RX : Hid (n1 = 0 → ∀ W, Below w.heap.size w W → Calls Tryz.prog 14 #[.slice x (n - 4) c] W fun e w' => (∃ x1 c1 x2 c2 x3 c3, e = .returned (.tuple #[.agg #[.string m.nm, .slice x1 m.cs.length c1, .slice x2 m.fs.length c2, .slice x3 m.js.length c3], .int .i64 p2, .int .i64 n2]) ∧ ImT (Fresh W.heap.size w'.heap.size) w' m x1 c1 x2 c2 x3 c3) ∧ Below W.heap.size W w') := hR
  have HC : Hid (n ≤ c) := hc
  have HL : Hid (n1 = 0 → 8 ≤ n ∧ n ≤ 4194304) := hl
  have HD : Hid (D = if n1 ≠ 0 then (p1, n1) else if n2 ≠ 0 then (p2, n2) else (0, (chk m).2.2)) := hD
  have H0 : Hid (n2 = 0 → p2 = 0) := h0
  have HM : Hid (n1 = 0 → n2 = 0 → ImOk m) := hM
  clear hF hR hc hl hD h0 hM
  obtain ⟨G, hG⟩ : ∃ G, w.heap.size = G := ⟨_, rfl⟩
  obtain ⟨A0, e0⟩ : ∃ A0, A0 = w.alloc (.cells #[.string ⟨#[]⟩, .slice none 0 0, .slice none 0 0, .slice none 0 0] 26 (0, 0)) := ⟨_, rfl⟩
  obtain ⟨AW, eW⟩ : ∃ AW, AW = A0.alloc (.cells #[.string ⟨#[]⟩, .slice none 0 0, .slice none 0 0, .slice none 0 0] 26 (0, 0)) := ⟨_, rfl⟩
  have S0 : A0.heap.size = G + 1 := by rw [e0, ← hG]; simp
  have X0 : Hid (AW.heap[G]? = some (.cells #[.string ⟨#[]⟩, .slice none 0 0, .slice none 0 0, .slice none 0 0] 26 (0, 0))) := by
    rw [eW]
    refine ((gb_alloc A0 _ none).block G (by omega) (by simp)).trans ?_
    rw [e0, ← hG]
    exact heap_alloc_last _ _
  have Y0 : Hid (AW.heap[G + 1]? = some (.cells #[.string ⟨#[]⟩, .slice none 0 0, .slice none 0 0, .slice none 0 0] 26 (0, 0))) := by rw [eW, ← S0]; exact heap_alloc_last _ _
  have Z0 : Hid (G + 1 < AW.heap.size) := by rw [eW]; show _ < _; simp [S0]
  have B0 : Hid (Below w.heap.size w AW) := by rw [eW, e0]; exact ((Below.refl _ _).alloc (Nat.le_refl _) _).alloc (by simp) _
  have HG : Hid (w.heap.size = G) := hG
  go_enter Tryz.func6, Tryz.ntmps6
  go_wp2
  rw [← e0]
  try rw [hG]
  clear e0
  refine wp_scope_jumps (rest := ?rest) 0 (fun a' w' => ∃ (u8 u9 u10 u11 u12 u13 u14 u15 u16 u17 u18 u19 u20 u21 u22 u23 u24 u25 u26 u27 u28 u29 u30 u31 u32 u33 u34 u35 u36 u37 u38 : Value), a' = { tmps := #[.slice x n c, undef, .pointer (some ⟨G, 0, none⟩), .int .i64 0, .int .i64 0, .pointer (some ⟨G + 1, 0, none⟩), .int .i64 D.1, .int .i64 D.2, u8, u9, u10, u11, u12, u13, u14, u15, u16, u17, u18, u19, u20, u21, u22, u23, u24, u25, u26, u27, u28, u29, u30, u31, u32, u33, u34, u35, u36, u37, u38], defers := [] } ∧ D.2 ≠ 0 ∧ w'.heap[G]? = some (.cells #[.string ⟨#[]⟩, .slice none 0 0, .slice none 0 0, .slice none 0 0] 26 (0, 0)) ∧ Below w.heap.size w w') (fun _ _ => 0) ?hf ?first ?pass
  case hf => exact rfl
  case first =>
    go_upto_region 2 with fail
    try rw [S0]
    rw [← eW]
    clear eW S0 hG
    go_wp2_with (go_at_call 13; refine (FR.out _ B0.out).mono ?_)
    rintro e w1 ⟨rfl, hb⟩
    have B1 : Hid (Below w.heap.size w w1) := B0.out.trans (hb.mono B0.out.size)
    have X1 : Hid (w1.heap[G]? = some (.cells #[.string ⟨#[]⟩, .slice none 0 0, .slice none 0 0, .slice none 0 0] 26 (0, 0))) := (hb.block G (by have := Z0.out; omega)).trans X0.out
    have Y1 : Hid (w1.heap[G + 1]? = some (.cells #[.string ⟨#[]⟩, .slice none 0 0, .slice none 0 0, .slice none 0 0] 26 (0, 0))) := (hb.block (G + 1) Z0.out).trans Y0.out
    have Z1 : Hid (G + 1 < w1.heap.size) := Nat.lt_of_lt_of_le Z0.out hb.size
    clear hb B0 X0 Y0 Z0
    by_cases q1 : n1 = 0
    case neg =>
      have D1 : D = (p1, n1) := by rw [HD.out, if_pos q1]
      subst D1
      go_wp2
      exact wp_goto ⟨rfl, _, _, _, _, _, _, _, _, _, _, _, _, _, _, _, _, _, _, _, _, _, _, _, _, _, _, _, _, _, _, _, rfl, q1, X1.out, B1.out⟩
    case pos =>
      subst q1
      obtain ⟨E, eE⟩ : ∃ E, n = E + 4 := ⟨n - 4, by have := HL.out rfl; omega⟩
      obtain ⟨N4, e4⟩ : ∃ N4, N4 = E + 4 := ⟨_, rfl⟩
      rw [← e4] at eE
      subst eE
      have HE : Hid (n = E + 4) := e4
      clear e4
      have LE : Hid (8 ≤ n ∧ n ≤ 4194304) := HL.out rfl
      have e1 : wrap64 ((n : Int) - 4) = (E : Int) := by have := LE.out; have := HE.out; unfold wrap64; omega
      have e2 : (E : Int) ≤ c := by have := HC.out; have := HE.out; omega
      have e3 : (0 : Int) ≤ E := by omega
      have RY : Hid (∀ W, Below w.heap.size w W → Calls Tryz.prog 14 #[.slice x E c] W fun e w' => (∃ x1 c1 x2 c2 x3 c3, e = .returned (.tuple #[.agg #[.string m.nm, .slice x1 m.cs.length c1, .slice x2 m.fs.length c2, .slice x3 m.js.length c3], .int .i64 p2, .int .i64 n2]) ∧ ImT (Fresh W.heap.size w'.heap.size) w' m x1 c1 x2 c2 x3 c3) ∧ Below W.heap.size W w') := fun W hW => by have q := RX.out rfl W hW; rw [show n - 4 = E by have := HE.out; omega] at q; exact q
      clear RX
      go_upto_region 4 with fail
      go_wp2_with (go_at_call 14; refine (RY.out _ B1.out).mono ?_)
      rintro e w2 ⟨⟨x1, c1, x2, c2, x3, c3, rfl, hq⟩, hb⟩
      have B2 : Hid (Below w.heap.size w w2) := B1.out.trans (hb.mono B1.out.size)
      have X2 : Hid (w2.heap[G]? = some (.cells #[.string ⟨#[]⟩, .slice none 0 0, .slice none 0 0, .slice none 0 0] 26 (0, 0))) := (hb.block G (by have := Z1.out; omega)).trans X1.out
      have Y2 : w2.heap[G + 1]? = some (.cells #[.string ⟨#[]⟩, .slice none 0 0, .slice none 0 0, .slice none 0 0] 26 (0, 0)) := (hb.block (G + 1) Z1.out).trans Y1.out
      have Q2 : Hid (ImT (Fresh w1.heap.size w2.heap.size) w2 m x1 c1 x2 c2 x3 c3) := hq
      have Z2 : Hid (G + 1 < w1.heap.size ∧ w1.heap.size ≤ w2.heap.size) := ⟨Z1.out, hb.size⟩
      clear hb hq B1 X1 Y1 Z1
      go_upto_region 5 with (refine wpList_store_row rfl 26 _ _ rfl (G + 1) _ rfl rfl _ _ Y2 img_info rfl (by kernel_rfl) ?_)
      have Y3 := setRow_heap w2 (G + 1) _ (#[.string m.nm, .slice x1 m.cs.length c1, .slice x2 m.fs.length c2, .slice x3 m.js.length c3]) _ _ Y2
      have B3 : Hid (Below w.heap.size w (w2.setRow (G + 1) #[.string m.nm, .slice x1 m.cs.length c1, .slice x2 m.fs.length c2, .slice x3 m.js.length c3])) := row_below_d B2.out (by have := HG.out; omega) _
      have X3 : Hid ((w2.setRow (G + 1) #[.string m.nm, .slice x1 m.cs.length c1, .slice x2 m.fs.length c2, .slice x3 m.js.length c3]).heap[G]? = some (.cells #[.string ⟨#[]⟩, .slice none 0 0, .slice none 0 0, .slice none 0 0] 26 (0, 0))) := (setRow_other _ _ _ _ (by omega)).trans X2.out
      have Q3 : Hid (ImT (Fresh w1.heap.size w2.heap.size) (w2.setRow (G + 1) #[.string m.nm, .slice x1 m.cs.length c1, .slice x2 m.fs.length c2, .slice x3 m.js.length c3]) m x1 c1 x2 c2 x3 c3) := Q2.out.fr (fun q hq => (setRow_other _ _ _ _ (by have := hq.1; have := Z2.out; omega)))
      have S3 : Hid (w2.heap.size ≤ (w2.setRow (G + 1) #[.string m.nm, .slice x1 m.cs.length c1, .slice x2 m.fs.length c2, .slice x3 m.js.length c3]).heap.size) := by show _ ≤ _; simp [World.setRow]
      generalize w2.setRow (G + 1) #[.string m.nm, .slice x1 m.cs.length c1, .slice x2 m.fs.length c2, .slice x3 m.js.length c3] = W3 at *
      have YH : Hid (W3.heap[G + 1]? = some (.cells #[.string m.nm, .slice x1 m.cs.length c1, .slice x2 m.fs.length c2, .slice x3 m.js.length c3] 26 (0, 0))) := Y3
      clear Y2 Y3 Q2 X2 B2
      by_cases q2 : n2 = 0
      case neg =>
        have D1 : D = (p2, n2) := by rw [HD.out, if_neg (fun h => h rfl), if_pos q2]
        subst D1
        go_wp2
        exact wp_goto ⟨rfl, _, _, _, _, _, _, _, _, _, _, _, _, _, _, _, _, _, _, _, _, _, _, _, _, _, _, _, _, _, _, _, rfl, q2, X3.out, B3.out⟩
      case pos =>
        subst q2
        have OK : Hid (ImOk m) := by have q := HM.out; show ImOk m; simpa using q
        have CK : Hid (Calls Tryz.prog 10 #[.agg #[.string m.nm, .slice x1 m.cs.length c1, .slice x2 m.fs.length c2, .slice x3 m.js.length c3]] W3 fun e w' => e = .returned (.tuple #[.int .i64 (chk m).1, .int .i64 (chk m).2.1, .int .i64 (chk m).2.2]) ∧ Below W3.heap.size W3 w') := CheckI_of m x1 x2 x3 c1 c2 c3 W3 (fun b hb => Nat.lt_of_lt_of_le hb.2 S3.out) Q3.out.q OK.out
        have P2 : p2 = 0 := H0.out rfl
        subst P2
        obtain ⟨⟨k1, k2, k3⟩, ek⟩ : ∃ k, chk m = k := ⟨_, rfl⟩
        rw [ek] at HD CK
        have HK : Hid (chk m = (k1, k2, k3)) := ek
        clear ek OK HM
        go_upto_region 6 with fail
        go_wp2_with (refine wpList_load_row rfl 26 _ rfl (G + 1) rfl 26 #[.string m.nm, .slice x1 m.cs.length c1, .slice x2 m.fs.length c2, .slice x3 m.js.length c3] (0, 0) _ YH.out Tryz.underlying26 rfl img_info ?_)
        refine (CK.out).mono ?_
        rintro e w4 ⟨rfl, hb⟩
        have B4 : Hid (Below w.heap.size w w4) := B3.out.trans (hb.mono B3.out.size)
        have X4 : Hid (w4.heap[G]? = some (.cells #[.string ⟨#[]⟩, .slice none 0 0, .slice none 0 0, .slice none 0 0] 26 (0, 0))) := (hb.block G (blk_in' X3.out)).trans X3.out
        have Y4 : Hid (w4.heap[G + 1]? = some (.cells #[.string m.nm, .slice x1 m.cs.length c1, .slice x2 m.fs.length c2, .slice x3 m.js.length c3] 26 (0, 0))) := (hb.block (G + 1) (blk_in' YH.out)).trans YH.out
        have Q4 : Hid (ImT (Fresh w1.heap.size w2.heap.size) w4 m x1 c1 x2 c2 x3 c3) := Q3.out.fr (fun q hq => hb.block _ (Nat.lt_of_lt_of_le hq.2 S3.out))
        have S4 : Hid (w2.heap.size ≤ w4.heap.size) := Nat.le_trans S3.out hb.size
        clear hb B3 X3 YH Q3 S3 CK
        by_cases q3 : k3 = 0
        case neg =>
          have D1 : D = (0, k3) := by rw [HD.out, if_neg (fun h => h rfl), if_neg (fun h => h rfl)]
          subst D1
          go_wp2
          exact wp_goto ⟨rfl, _, _, _, _, _, _, _, _, _, _, _, _, _, _, _, _, _, _, _, _, _, _, _, _, _, _, _, _, _, _, _, rfl, q3, X4.out, B4.out⟩
        case pos =>
          subst q3
          have D1 : D = (0, 0) := by rw [HD.out, if_neg (fun h => h rfl), if_neg (fun h => h rfl)]
          subst D1
          go_wp2_with (first | (refine wpList_load_row rfl 26 _ rfl (G + 1) rfl 26 #[.string m.nm, .slice x1 m.cs.length c1, .slice x2 m.fs.length c2, .slice x3 m.js.length c3] (0, 0) _ Y4.out Tryz.underlying26 rfl img_info ?_) | (refine wpList_store_row rfl 26 _ _ rfl G _ rfl rfl _ _ X4.out img_info rfl (by kernel_rfl) ?_))
          refine jump_ret ?_
          refine bodyPost_ret (v := .tuple #[.agg #[.string m.nm, .slice x1 m.cs.length c1, .slice x2 m.fs.length c2, .slice x3 m.js.length c3], .int .i64 0, .int .i64 0]) (results_cell_row_2 Tryz.results6 _ _ G _ _ (0, 0) _ (by first | rfl | simp [Act.put]) (setRow_heap _ _ _ _ _ _ X4.out) Tryz.underlying26 rfl img_info) rfl ?_
          have zz := Z2.out
          have gg := HG.out
          refine ⟨⟨_, rfl, ⟨fun h => absurd rfl h, fun _ => ⟨x1, c1, x2, c2, x3, c3, rfl, ?_⟩⟩⟩, row_below_d B4.out (by omega) _⟩
          refine (Q4.out.fr (fun q hq => (setRow_other _ _ _ _ (by have := hq.1; omega)))).sub (up_sub' (by omega) ?_)
          have := S4.out
          simp [World.setRow]
          exact this
  case pass =>
    rintro a' w' ⟨u8, u9, u10, u11, u12, u13, u14, u15, u16, u17, u18, u19, u20, u21, u22, u23, u24, u25, u26, u27, u28, u29, u30, u31, u32, u33, u34, u35, u36, u37, u38, rfl, hne, hX, hB⟩
    go_wp2_with (refine wpList_store_row rfl 26 _ _ rfl G _ rfl rfl _ _ hX img_info rfl (by kernel_rfl) ?_)
    refine jump_ret ?_
    refine bodyPost_ret (v := .tuple #[.agg #[.string ⟨#[]⟩, .slice none 0 0, .slice none 0 0, .slice none 0 0], .int .i64 D.1, .int .i64 D.2]) (results_cell_row_2 Tryz.results6 _ _ G _ _ (0, 0) _ (by first | rfl | simp [Act.put]) (setRow_heap _ _ _ _ _ _ hX) Tryz.underlying26 rfl img_info) rfl ?_
    exact ⟨⟨_, rfl, ⟨fun _ => rfl, fun h => absurd h hne⟩⟩, row_below_d hB (by have := HG.out; omega) _⟩
theorem DecodeT (x : Option Addr) (c : Nat) (l : List Nat) (w : World) (h8 : ∀ b ∈ l, b < 256) (hx : BySl x l w) (hc : l.length ≤ c) :
    Calls Tryz.prog 6 #[.slice x l.length c] w fun e w' => (∃ z, e = .returned (.tuple #[z, .int .i64 (decE l).1, .int .i64 (decE l).2]) ∧ DecT (decM l) (decE l).2 w.heap.size w' z) ∧ Below w.heap.size w w' := by
  have up : ∀ W, Below w.heap.size w W → BySl x l W := fun W hW k b hb => by
    obtain ⟨kb, o, e, h1, h2⟩ := hx k b hb
    exact ⟨kb, o, e, Nat.lt_of_lt_of_le h1 hW.size, (hW.cell h1).trans h2⟩
  refine decWT x c l.length w (frO l).1 (frO l).2 (decT l).a (decT l).y (decM l) (decE l) hc frO_ok rfl (fun h => (decT_0 h).1) (fun h hy => dec_ok h8 h hy) (fun W hW => ?_)  (fun h W hW => ?_)
  · by_cases hb : 4194304 < l.length
    · exact frameBig x c l W hb
    · exact frameX x c l W h8 (up W hW) hc (by omega)
  have hl := frO_ok h
  obtain ⟨b0, hb0⟩ : ∃ b, l[0]? = some b := ⟨_, List.getElem?_eq_getElem (by omega)⟩
  obtain ⟨kb, o, e, h1, _⟩ := up W hW 0 _ hb0
  subst e
  have q := readXt kb o c (inn l) W (fun k b hb => by
    obtain ⟨kb', o', e, _, h2⟩ := up W hW k b (inn_at hb)
    cases e
    exact h2) (by rw [inn_len]; omega) (by rw [inn_len]; omega) (by rw [inn_len]; omega) h1 (fun v hv => h8 v (List.mem_of_mem_take (by unfold inn at hv; exact hv)))
  rw [inn_len] at q
  exact q
end Go.Proofs.YtdcjngakmkgbmaaGreat.Ty
