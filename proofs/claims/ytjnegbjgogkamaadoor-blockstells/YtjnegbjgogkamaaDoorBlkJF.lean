/- What Vars answers for F_TRIG; no statement of the seat is proved here. -/
import Derived.Test.YtjnegbjgogkamaaDoorBlkJ
import Derived.Test.YtjnegbjgogkamaaDoorBlkX
namespace Go.Proofs.YtjnegbjgogkamaaDoor
set_option linter.unusedVariables false
open Go.RowKit
def nmF (i : Nat) : ByteArray := if i = 0 then ⟨#[67, 76, 75]⟩ else if i = 1 then ⟨#[81]⟩ else ⟨#[77]⟩
theorem nmF0 : nmF 0 = ⟨#[67, 76, 75]⟩ := rfl
theorem nmF1 : nmF 1 = ⟨#[81]⟩ := rfl
theorem nmF2 : nmF 2 = ⟨#[77]⟩ := rfl
def iniF (b : Nat) (i : Nat) : Value := if i = 2 then .slice (some ⟨b, 0, none⟩) 1 1 else .slice none 0 0
/-- The variables of F_TRIG. -/
abbrev vfF (ks : ByteArray) (ins outs : Int) (b : Nat) : VrF := ⟨nmF, clsN ins outs, kAt ks, iniF b⟩
/-- A block that holds TRUE. -/
structure IbAt (w : World) (b : Nat) : Prop where
  c0 : w.cell? ⟨b, 0, none⟩ = some (.int .u8 1)
  c1 : w.cell? ⟨b, 1, none⟩ = some (.int .u64 1)
  c2 : w.cell? ⟨b, 2, none⟩ = some (.string ⟨#[]⟩)
theorem IbAt.same {w w' : World} {b : Nat} (h : IbAt w b) (e : w'.heap[b]? = w.heap[b]?) : IbAt w' b := by
  have q : ∀ o, w'.cell? ⟨b, o, none⟩ = w.cell? ⟨b, o, none⟩ := fun o => World.cell?_of_block (w := w) (a := ⟨b, o, none⟩) e
  exact ⟨(q 0).trans h.c0, (q 1).trans h.c1, (q 2).trans h.c2⟩
theorem IbAt.lt {w : World} {b : Nat} (h : IbAt w b) : b < w.heap.size := block_lt_of_cell h.c0
theorem IbAt.below {w w' : World} {b : Nat} (h : IbAt w b) (hb : Below w.heap.size w w') : IbAt w' b := h.same (hb.block b h.lt)
theorem own_lt {w : World} {base : Nat} {e : TypeId} {size : Nat} {x : Value} {n : Nat} {xs : List Value} (h : w.ownsRow base e size x n xs) {g : Nat} (hg : x.ownBlock = some g) : g < w.heap.size := by
  obtain ⟨_, h2⟩ := h
  rcases h2 with ⟨rfl, _⟩ | ⟨g', cap, cur, rfl, hb, hh, _⟩
  · simp [Value.ownBlock] at hg
  · simp [Value.ownBlock] at hg; subst hg; exact lt_of_block hh
theorem Bool_t (w : World) : Calls Tryd.prog 29 #[.bool true] w fun e w' => e = .returned (V 1 1 ⟨#[]⟩) ∧ Below w.heap.size w w' := by
  go_enter Tryd.func29, Tryd.ntmps29
  go_wp2
  exact bodyPost_ret (v := V 1 1 ⟨#[]⟩) (by simp [results, Tryd.results29, go_sem]) rfl ⟨rfl, (Below.refl _ _).alloc (Nat.le_refl _) _⟩
theorem vrL_b (ks : ByteArray) (ins outs : Int) (k b b' : Nat) (h : k ≤ 2) : vrL k (vfF ks ins outs b) = vrL k (vfF ks ins outs b') := vrL_congr _ _ _ (fun i hi => ⟨rfl, rfl, rfl, by show iniF b i = iniF b' i; unfold iniF; rw [if_neg (by omega), if_neg (by omega)]⟩)
theorem fz16 {w : World} {h : Nat} {t : TypeId} {A : Array Value} {nm : ByteArray} {cl kd : Int} {ini : Value} (e : w.heap[h]? = some (.cells A t (0, 0))) :
    ((((((((((((((((w.setCell ⟨h, 0, none⟩ (.string nm)).setCell ⟨h, 1, none⟩ (.int .i64 0)).setCell ⟨h, 2, none⟩ (.int .i64 cl)).setCell ⟨h, 3, none⟩ (.int .u8 kd)).setCell ⟨h, 4, none⟩ (.bool false)).setCell ⟨h, 5, none⟩ (.int .i64 0)).setCell ⟨h, 6, none⟩ (.int .i64 0)).setCell ⟨h, 7, none⟩ (.int .i64 0)).setCell ⟨h, 8, none⟩ (.bool false)).setCell ⟨h, 9, none⟩ (.int .i64 0)).setCell ⟨h, 10, none⟩ (.int .i64 0)).setCell ⟨h, 11, none⟩ (.string ⟨#[]⟩)).setCell ⟨h, 12, none⟩ (ini)).setCell ⟨h, 13, none⟩ (.bool false)).setCell ⟨h, 14, none⟩ (.bool false)).setCell ⟨h, 15, none⟩ (.string ⟨#[]⟩)).frozen? ⟨h, 12, none⟩ = false := by
  have e0 := heap_setCell_same _ h 0 _ t (.string nm) e
  have e1 := heap_setCell_same _ h 1 _ t (.int .i64 0) e0
  have e2 := heap_setCell_same _ h 2 _ t (.int .i64 cl) e1
  have e3 := heap_setCell_same _ h 3 _ t (.int .u8 kd) e2
  have e4 := heap_setCell_same _ h 4 _ t (.bool false) e3
  have e5 := heap_setCell_same _ h 5 _ t (.int .i64 0) e4
  have e6 := heap_setCell_same _ h 6 _ t (.int .i64 0) e5
  have e7 := heap_setCell_same _ h 7 _ t (.int .i64 0) e6
  have e8 := heap_setCell_same _ h 8 _ t (.bool false) e7
  have e9 := heap_setCell_same _ h 9 _ t (.int .i64 0) e8
  have e10 := heap_setCell_same _ h 10 _ t (.int .i64 0) e9
  have e11 := heap_setCell_same _ h 11 _ t (.string ⟨#[]⟩) e10
  have e12 := heap_setCell_same _ h 12 _ t (ini) e11
  have e13 := heap_setCell_same _ h 13 _ t (.bool false) e12
  have e14 := heap_setCell_same _ h 14 _ t (.bool false) e13
  have e15 := heap_setCell_same _ h 15 _ t (.string ⟨#[]⟩) e14
  simp [World.frozen?, e15]
theorem last_src_at (W : World) (b : Nat) (hb : b = W.heap.size) (l : List Value) (t : TypeId) : ∀ j u, l[j]? = some u → (W.alloc (.cells l.toArray t)).cell? ((⟨b, 0, none⟩ : Addr).add j) = some u := by
  subst hb; exact last_src W l t
theorem ib_new (W : World) (b : Nat) (hb : b = W.heap.size) (t : TypeId) (X : Obj) : IbAt ((W.alloc (.cells #[.int .u8 1, .int .u64 1, .string ⟨#[]⟩] t)).alloc X) b := by
  subst hb
  have h0 : IbAt (W.alloc (.cells #[.int .u8 1, .int .u64 1, .string ⟨#[]⟩] t)) W.heap.size := by
    have g := heap_alloc_last W (.cells #[.int .u8 1, .int .u64 1, .string ⟨#[]⟩] t)
    constructor <;> (simp only [World.cell?, g]; rfl)
  exact h0.below ((Below.refl _ _).alloc (Nat.le_refl _) _)
section
variable (nm names ks : ByteArray) (ins outs : Int) (f : Nat) (w : World)
set_option maxRecDepth 20000 in
set_option maxHeartbeats 4000000 in
theorem Vars_fall (hN : ∀ w, Calls Tryd.prog 25 #[.int .i64 4] w fun e w' => e = .returned (BV nm names ks ins outs (FN f)) ∧ Below w.heap.size w w')
    (hn : 3 = ks.size) (hF : FldOk names 3 nmF) (ht : Asc w) (h1 : 0 ≤ ins ∧ ins ≤ 100) (h2 : 0 ≤ outs ∧ outs ≤ 100) :
    Calls Tryd.prog 13 #[.int .i64 4] w fun e w' => ∃ g c b, e = .returned (.slice (some ⟨g, 0, none⟩) 3 c) ∧ w.heap.size ≤ g ∧ VrAt w' g 3 (vfF ks ins outs b) ∧ IbAt w' b ∧ Below w.heap.size w w' := by
  have HN : Hid _ := hN
  have HE : Hid _ := hn
  have HF : Hid _ := hF
  have HT : Hid (Asc w) := ht
  clear hN hn hF ht
  have I : Hid (∃ i, Tryd.prog.info? 59 = some i ∧ i.zero = some (.agg zV) ∧ i.size = 16 ∧ i.bytes = 152) := by
    obtain ⟨i, hi, hz⟩ := Option.map_eq_some_iff.1 (show (Tryd.prog.info? 59).map (fun i => (i.zero, i.size, i.bytes)) = some (some (.agg zV), 16, 152) by kernel_rfl)
    simp only [Prod.mk.injEq] at hz
    exact ⟨i, hi, hz.1, hz.2.1, hz.2.2⟩
  go_enter Tryd.func13, Tryd.ntmps13
  go_wp2_with (first | (go_at_call 25; refine (HN.out _).mono ?_; rintro e w1 ⟨rfl, hb⟩; have HB1 : Hid _ := hb; clear hb) | (refine wpList_store_row rfl 51 _ _ rfl w1.heap.size _ rfl rfl _ _ (heap_alloc_last w1 _) blk_info rfl (by kernel_rfl) ?_; rw [World.setRow_alloc_new]) | (go_at_call 26; refine (Fields_of _ 3 nmF _ HF.out ((HT.out.below HB1.out).below ((Below.refl _ _).alloc (Nat.le_refl _) _))).mono ?_; rintro e w2 ⟨rfl, hnm, hb⟩; have HB2 : Hid _ := hb; have NM : Hid (NmAt w2 _ 3 nmF) := hnm; clear hb hnm))
  have z2 : w1.heap.size + 1 < w2.heap.size := by
    have := block_lt_of_cell (a := ⟨w1.heap.size + 1, 0, none⟩) (by simpa using NM.out 0 (by omega))
    exact this
  have NM2 : Hid (NmAt w2 (w1.heap.size + 1) 3 nmF) := by have := NM.out; simp at this; exact this
  have zb : w.heap.size ≤ w1.heap.size := HB1.out.size
  have B2 : Hid (Below w.heap.size w w2) := HB1.out.trans ((((Below.refl _ _).alloc (Nat.le_refl _) _).trans (HB2.out.mono (by simp))).mono zb)
  have X2 : Hid (BxAt w2 w1.heap.size nm names ks ins outs (FN f)) := BxAt.below (w := w1.alloc (.cells #[.string nm, .string names, .string ks, .int .i64 ins, .int .i64 outs, FN f] 51)) ⟨by simp, by simp, by simp, by simp, by simp, by simp⟩ HB2.out
  clear HB2 NM
  go_loopw [4, 14] (fun v i wr => ∃ k b : Nat, k ≤ 3 ∧ i = .int .i64 k ∧ wr.ownsRow w2.heap.size 59 16 v k (vrL k (vfF ks ins outs b)) ∧ (k = 3 → IbAt wr b) ∧ Below w2.heap.size w2 wr) (fun _ i _ => 3 - (intOf i).toNat)
  case atStart => exact ⟨0, 0, Nat.zero_le _, rfl, ⟨rfl, .inl ⟨rfl, rfl⟩⟩, fun h => by omega, Below.refl _ _⟩
  case round =>
    obtain ⟨k, b, hk, rfl, hown, hib, hb⟩ := hrel
    have HI : Hid (k = 3 → IbAt wr b) := hib
    clear hib
    have hx := X2.out.below hb
    have hnm := NM2.out.below hb
    have HB : Hid (Below w2.heap.size w2 wr) := hb
    have HX : Hid (BxAt wr w1.heap.size nm names ks ins outs (FN f)) := hx
    have HO : Hid (wr.ownsRow w2.heap.size 59 16 _ k (vrL k (vfF ks ins outs b))) := hown
    have HM : Hid (NmAt wr (w1.heap.size + 1) 3 nmF) := hnm
    by_cases hlt : k < 3
    · have d := hnm k hlt
      have zr : w1.heap.size + 1 < wr.heap.size := block_lt_of_cell d
      obtain ⟨c0, c1, c2, c3, c4, c5⟩ := hx
      clear hown hb hnm
      have k100 : k ≤ 100 := by omega
      have kks : k < ks.size := by have := HE.out; omega
      go_upto_region 6 with fail
      have e1 := World.new_ne wr ⟨w1.heap.size, 0, none⟩ c0
      go_cut [7] (fun s7 wx => ∃ h, s7 = .pointer (some ⟨h, 0, none⟩) ∧ (VbAt wx h (nmF k) (clsN ins outs k) (kAt ks k) (.slice none 0 0) ∧ wx.frozen? ⟨h, 12, none⟩ = false) ∧ wr.heap.size ≤ h ∧ Below wr.heap.size wr wx)
      case first =>
        go_region_held3 (fun w' => w'.cell? ⟨w1.heap.size, 0, none⟩ = some (.string nm) ∧ w'.cell? ⟨w1.heap.size, 1, none⟩ = some (.string names) ∧ w'.cell? ⟨w1.heap.size, 2, none⟩ = some (.string ks) ∧ w'.cell? ⟨w1.heap.size, 3, none⟩ = some (.int .i64 ins) ∧ w'.cell? ⟨w1.heap.size, 4, none⟩ = some (.int .i64 outs) ∧ w'.cell? ⟨w1.heap.size, 5, none⟩ = some (FN f)) (go_keep)
          (first | (go_at_call 27; refine (class_of _ _ _ _ _ _ _ _ h1 h2 k100).mono ?_; rintro e w5 ⟨rfl, hb5⟩; obtain ⟨q5, f5⟩ := bcell hb5; have s5 := hb5.size; (try simp at s5); have u5 : wr.heap.size ≤ w5.heap.size := (by omega); have g5 : ¬ w5.heap.size = w1.heap.size := (by omega); have B5 : Hid (Below wr.heap.size wr w5) := below_step (by go_grown) hb5; obtain ⟨x0, x1, x2, x3, x4, x5⟩ := HX.out.below B5.out; (try have l5 : wr.heap.size < w5.heap.size := (by omega))) | (go_at_call 28; refine (kind_of _ _ _ _ _ _ _ _ kks).mono ?_; rintro e w6 ⟨rfl, hb6⟩; obtain ⟨q6, f6⟩ := bcell hb6; have s6 := hb6.size; (try simp at s6); have u6 : wr.heap.size ≤ w6.heap.size := (by omega); have g6 : ¬ w6.heap.size = w1.heap.size := (by omega); have B6 : Hid (Below wr.heap.size wr w6) := below_step (by first | exact B5.out | exact B5.out.drew | exact B5.out.alloc B5.out.size _ | exact (B5.out.alloc B5.out.size _).drew) hb6; obtain ⟨y0, y1, y2, y3, y4, y5⟩ := HX.out.below B6.out; (try have l6 : wr.heap.size < w6.heap.size := (by omega)); (try have l7 : w5.heap.size < w6.heap.size := (by omega))))
        all_goals
          go_wp2_with fail
          go_meet
          case rel =>
            refine ⟨_, rfl, ?_, by omega, ?_⟩
            · refine ⟨?_, ?_⟩
              · first | ((with_reducible refine vb16 (h := wr.heap.size) (t := 59) (A := zV) ?_ rfl); exact (hb6.block _ (by omega)).trans ((hb5.block _ (by simp)).trans (heap_alloc_last wr _))) | ((with_reducible refine vb16 (h := w5.heap.size) (t := 59) (A := zV) ?_ rfl); exact (hb6.block _ (by simp)).trans (heap_alloc_last w5 _)) | exact ⟨by simp, by simp, by simp, by simp, by simp, by simp, by simp, by simp, by simp, by simp, by simp, by simp, by simp, by simp, by simp, by simp⟩
              · first | ((with_reducible refine fz16 (h := wr.heap.size) (t := 59) (A := zV) ?_); exact (hb6.block _ (by omega)).trans ((hb5.block _ (by simp)).trans (heap_alloc_last wr _))) | ((with_reducible refine fz16 (h := w5.heap.size) (t := 59) (A := zV) ?_); exact (hb6.block _ (by simp)).trans (heap_alloc_last w5 _)) | simp
            · go_grown
              exact B6.out
      case rest =>
        obtain ⟨h, rfl, ⟨hbox, fz⟩, hh, hb7⟩ := hcut
        have HB7 : Hid (Below wr.heap.size wr wc) := hb7
        have HOc : Hid (wc.ownsRow w2.heap.size 59 16 _ k (vrL k (vfF ks ins outs b))) := ownsRow_below HO.out hb7
        have SZ : Hid (w2.heap.size ≤ wc.heap.size) := Nat.le_trans HB.out.size HB7.out.size
        have hhc : h < wc.heap.size := block_lt_of_cell hbox.c0
        obtain ⟨o0, o1, o2, o3, o4, o5, o6, o7, o8, o9, o10, o11, o12, o13, o14, o15⟩ := hbox
        clear hb7 c0 c1 c2 c3 c4 c5 d
        rcases (show k < 2 ∨ k = 2 by omega) with h22 | rfl
        · have q0 : ¬ nmF k = ⟨#[77]⟩ := by rcases (show k = 0 ∨ k = 1 by omega) with rfl | rfl <;> decide
          have q1 : (nmF k == ⟨#[77]⟩) = false := by rcases (show k = 0 ∨ k = 1 by omega) with rfl | rfl <;> decide
          have q2 : ((nmF k).toList == [77]) = false := by rcases (show k = 0 ∨ k = 1 by omega) with rfl | rfl <;> first | decide | kernel_rfl | rfl | simp [nmF, go_sem]
          have q3 : iniF b k = .slice none 0 0 := by unfold iniF; rw [if_neg (by omega)]
          have Q3 : Hid (iniF b k = .slice none 0 0) := q3
          clear q3
          go_wp2_with (at_builtin; obtain ⟨i, hi, hz, hs, hy⟩ := I.out; refine wpList_append_own _ rfl _ _ 27 rfl w2.heap.size 59 i _ 16 152 Tryd.underlying27 hi hz hs hy rfl (by decide) _ k _ rfl (ownsRow_below HOc.out ((Below.refl _ _).alloc (Nat.le_refl _) _)) ⟨wc.heap.size, 0, none⟩ 1 1 (vrC (nmF k) (clsN ins outs k) (kAt ks k) (.slice none 0 0)) rfl rfl (last_src wc _ _) (vrC_one _ _ _ _ rfl) (by simp [maxLen]; omega) (by omega) (by have := HB.out.size; have := HB7.out.size; simp; omega) ?_; intro v' w' k1 k2 k3; rw [← Q3.out, ← vrL_succ k (vfF ks ins outs b)] at k1; have H1 : Hid (w'.ownsRow w2.heap.size 59 16 v' (k + 1) (vrL (k + 1) (vfF ks ins outs b))) := k1; have H2 : Hid _ := k2; clear k1 k2 k3 hi hz hs hy)
          exact ⟨⟨k + 1, b, by omega, by go_num, H1.out, fun h => by omega, ((HB.out.trans (HB7.out.mono HB.out.size)).alloc SZ.out _).grown H2.out (by have := SZ.out; simp; omega) (fun g e => own_block HOc.out e)⟩, by simp [intOf]; omega⟩
        · rw [nmF2] at o0
          rw [nmF2]
          go_wp2_with (first | (go_at_call 29; refine (Bool_t _).mono ?_; rintro e wB ⟨rfl, hbB⟩; obtain ⟨qB, fB⟩ := bcell hbB; have HBB : Hid (Below wc.heap.size wc wB) := hbB; have lB : h < wB.heap.size := Nat.lt_of_lt_of_le hhc hbB.size; have HWB : Hid (Below wr.heap.size wr wB) := below_step HB7.out hbB; have lW : wr.heap.size ≤ wB.heap.size := HWB.out.size; clear hbB) | (at_builtin; obtain ⟨i, hi, hz, hs, hy⟩ := I.out; refine wpList_append_own _ rfl _ _ 27 rfl w2.heap.size 59 i _ 16 152 Tryd.underlying27 hi hz hs hy rfl (by decide) _ 2 _ rfl (ownsRow_below HO.out (by go_grown; exact HWB.out)) ⟨wB.heap.size + 1, 0, none⟩ 1 1 (vrC ⟨#[77]⟩ (clsN ins outs 2) (kAt ks 2) (.slice (some ⟨wB.heap.size, 0, none⟩) 1 1)) rfl rfl (last_src_at _ _ (by simp) _ _) (vrC_one _ _ _ _ rfl) (by simp [maxLen]) (by omega) (by have := HB.out.size; simp; omega) ?_; intro v' w' k1 k2 k3))
          rw [vrL_b ks ins outs 2 b wB.heap.size (Nat.le_refl _)] at k1
          have k1' : w'.ownsRow w2.heap.size 59 16 v' (2 + 1) (vrL (2 + 1) (vfF ks ins outs wB.heap.size)) := by rw [vrL_succ]; exact k1
          have SB : w2.heap.size ≤ wB.heap.size := Nat.le_trans SZ.out HBB.out.size
          have nB : ¬ h = wB.heap.size := by omega
          have nB' : ¬ wB.heap.size = h := by omega
          have w2h : w2.heap.size ≤ h := Nat.le_trans HB.out.size hh
          have kb := k2.block wB.heap.size (by simp; omega) (fun e => by have := own_lt HO.out e.symm; omega)
          have IB : IbAt w' wB.heap.size := by
            exact IbAt.same (ib_new _ _ (by simp) _ _) kb
          refine ⟨⟨2 + 1, wB.heap.size, by omega, by go_num, k1', fun _ => IB, ?_⟩, by simp [intOf]⟩
          refine Below.grown (w := _) ?_ k2 (by simp; omega) (fun g e => own_block HO.out e)
          have BB : Below w2.heap.size w2 wB := HB.out.trans (HWB.out.mono HB.out.size)
          go_grown
    · have ek : k = 3 := by omega
      subst ek
      clear hown hb hx hnm
      go_wp2
      obtain ⟨g, c, rfl, hg, hr⟩ := own_vars HO.out (by omega)
      go_ret
      exact ⟨g, ⟨c, rfl⟩, Nat.le_trans B2.out.size hg, b, hr, HI.out trivial, B2.out.trans (HB.out.mono B2.out.size)⟩
end
end Go.Proofs.YtjnegbjgogkamaaDoor
