/- What Vars answers, for whatever block but F_TRIG; no statement of the seat is proved here. -/
import Derived.Test.YtjnegbjgogkamaaDoorBlkI
import Derived.Test.YtjnegbjgogkamaaDoorFl
import Derived.Test.YtjnegbjgogkamaaDoorNums
import Derived.Deep.RegionHeld3
import Derived.Deep.DeepCutAuto
import Derived.Shelf.Unicode.PredsPay
namespace Go.Proofs.YtjnegbjgogkamaaDoor
set_option linter.unusedVariables false
open Go.RowKit
/-- The table that strings.Fields reads lies as it is laid. -/
def Asc (w : World) : Prop := Lib.TabIs Tryd.prog w "strings.asciiSpace" .u8 Lib.asciiSpaceTab
theorem Asc.below {w w' : World} (h : Asc w) (hb : Below w.heap.size w w') : Asc w' := TabIs_below (g := 0) (by kernel_rfl) h hb
/-- The texts of a block's variables' names lie in memory. -/
def NmAt (w : World) (g n : Nat) (nms : Nat → ByteArray) : Prop := ∀ i, i < n → w.cell? ⟨g, i, none⟩ = some (.string (nms i))
theorem NmAt.below {w w' : World} {g n : Nat} {nms : Nat → ByteArray} (h : NmAt w g n nms) (hb : Below w.heap.size w w') : NmAt w' g n nms := by
  intro i hi
  have z : g < w.heap.size := block_lt_of_cell (a := ⟨g, i, none⟩) (h i hi)
  rw [hb.cell (p := ⟨g, i, none⟩) z]; exact h i hi
/-- What strings.Fields finds in a text. -/
structure FldOk (names : ByteArray) (n : Nat) (nms : Nat → ByteArray) : Prop where
  small : names.size < 4294967281
  ascii : ∀ (j : Nat) b, names.data.toList[j]? = some b → b.toNat < 128
  len : (Lib.fields names.data.toList).length = n
  at_ : ∀ i, i < n → ((Lib.fields names.data.toList).map fun l => Value.string ⟨l.toArray⟩)[i]? = some (.string (nms i))
theorem Fields_of (names : ByteArray) (n : Nat) (nms : Nat → ByteArray) (w : World) (h : FldOk names n nms) (ht : Asc w) :
    Calls Tryd.prog 26 #[.string names] w fun e w' => e = .returned (.slice (some ⟨w.heap.size, 0, none⟩) n n) ∧ NmAt w' w.heap.size n nms ∧ Below w.heap.size w w' :=
  (Tryd.strings_Fields_laid names w h.small h.ascii ht).mono (by
    rintro e w' ⟨rfl, rfl⟩
    refine ⟨by rw [h.len], fun i hi => ?_, (Below.refl _ _).alloc (Nat.le_refl _) _⟩
    have g := heap_alloc_last w (.cells ((Lib.fields names.data.toList).map fun l => Value.string ⟨l.toArray⟩).toArray 9)
    simp only [World.cell?, g]
    simpa using h.at_ i hi)
/-- A variable in its box. -/
structure VbAt (w : World) (h : Nat) (nm : ByteArray) (cl kd : Int) (ini : Value) : Prop where
  c0 : w.cell? ⟨h, 0, none⟩ = some (.string nm)
  c1 : w.cell? ⟨h, 1, none⟩ = some (.int .i64 0)
  c2 : w.cell? ⟨h, 2, none⟩ = some (.int .i64 cl)
  c3 : w.cell? ⟨h, 3, none⟩ = some (.int .u8 kd)
  c4 : w.cell? ⟨h, 4, none⟩ = some (.bool false)
  c5 : w.cell? ⟨h, 5, none⟩ = some (.int .i64 0)
  c6 : w.cell? ⟨h, 6, none⟩ = some (.int .i64 0)
  c7 : w.cell? ⟨h, 7, none⟩ = some (.int .i64 0)
  c8 : w.cell? ⟨h, 8, none⟩ = some (.bool false)
  c9 : w.cell? ⟨h, 9, none⟩ = some (.int .i64 0)
  c10 : w.cell? ⟨h, 10, none⟩ = some (.int .i64 0)
  c11 : w.cell? ⟨h, 11, none⟩ = some (.string ⟨#[]⟩)
  c12 : w.cell? ⟨h, 12, none⟩ = some (ini)
  c13 : w.cell? ⟨h, 13, none⟩ = some (.bool false)
  c14 : w.cell? ⟨h, 14, none⟩ = some (.bool false)
  c15 : w.cell? ⟨h, 15, none⟩ = some (.string ⟨#[]⟩)
/-- The cells of no variable. -/
def zV : Array Value := #[.string ⟨#[]⟩, .int .i64 0, .int .i64 0, .int .u8 0, .bool false, .int .i64 0, .int .i64 0, .int .i64 0, .bool false, .int .i64 0, .int .i64 0, .string ⟨#[]⟩, .slice none 0 0, .bool false, .bool false, .string ⟨#[]⟩]
theorem vb16 {w : World} {h : Nat} {t : TypeId} {A : Array Value} {nm : ByteArray} {cl kd : Int} {ini : Value} (e : w.heap[h]? = some (.cells A t (0, 0))) (hs : A.size = 16) :
    VbAt ((((((((((((((((w.setCell ⟨h, 0, none⟩ (.string nm)).setCell ⟨h, 1, none⟩ (.int .i64 0)).setCell ⟨h, 2, none⟩ (.int .i64 cl)).setCell ⟨h, 3, none⟩ (.int .u8 kd)).setCell ⟨h, 4, none⟩ (.bool false)).setCell ⟨h, 5, none⟩ (.int .i64 0)).setCell ⟨h, 6, none⟩ (.int .i64 0)).setCell ⟨h, 7, none⟩ (.int .i64 0)).setCell ⟨h, 8, none⟩ (.bool false)).setCell ⟨h, 9, none⟩ (.int .i64 0)).setCell ⟨h, 10, none⟩ (.int .i64 0)).setCell ⟨h, 11, none⟩ (.string ⟨#[]⟩)).setCell ⟨h, 12, none⟩ (ini)).setCell ⟨h, 13, none⟩ (.bool false)).setCell ⟨h, 14, none⟩ (.bool false)).setCell ⟨h, 15, none⟩ (.string ⟨#[]⟩)) h nm cl kd ini := by
  have e0 := heap_setCell_same _ h 0 _ t (.string nm) e
  have e1 := heap_setCell_same _ h 1 _ t (.int .i64 0) e0
  have e2 := heap_setCell_same _ h 2 _ t (.int .i64 cl) e1
  have e3 := heap_setCell_same _ h 3 _ t (.int .u8 kd) e2
  have e4 := heap_setCell_same _ h 4 _ t (.bool false) e3
  have e5 := heap_setCell_same _ h 5 _ t (.int .i64 0) e4
  have e6 := heap_setCell_same _ h 6 _ t (.int .i64 0) e5
  have e7 := heap_setCell_same _ h 7 _ t (.int .i64 0) e6
  have e8 := heap_setCell_same _ h 8 _ t (.bool false) e7
  have e9 := heap_setCell_same _ h 9 _ t (.int .i64 0) e8
  have e10 := heap_setCell_same _ h 10 _ t (.int .i64 0) e9
  have e11 := heap_setCell_same _ h 11 _ t (.string ⟨#[]⟩) e10
  have e12 := heap_setCell_same _ h 12 _ t (ini) e11
  have e13 := heap_setCell_same _ h 13 _ t (.bool false) e12
  have e14 := heap_setCell_same _ h 14 _ t (.bool false) e13
  have e15 := heap_setCell_same _ h 15 _ t (.string ⟨#[]⟩) e14
  refine ⟨?_, ?_, ?_, ?_, ?_, ?_, ?_, ?_, ?_, ?_, ?_, ?_, ?_, ?_, ?_, ?_⟩ <;> simp only [World.cell?, e15] <;> simp [hs]
theorem own_block {w : World} {base : Nat} {e : TypeId} {size : Nat} {x : Value} {n : Nat} {xs : List Value} (h : w.ownsRow base e size x n xs) {g : Nat} (hg : x.ownBlock = some g) : base ≤ g := by
  obtain ⟨_, h2⟩ := h
  rcases h2 with ⟨rfl, _⟩ | ⟨g', cap, cur, rfl, hb, _⟩
  · simp [Value.ownBlock] at hg
  · simp [Value.ownBlock] at hg; omega
theorem below_step {wr W w5 : World} (h : Below wr.heap.size wr W) (hb : Below W.heap.size W w5) : Below wr.heap.size wr w5 := h.trans (hb.mono h.size)
section
variable (K : Int) (nm names ks : ByteArray) (ins outs : Int) (f : Nat) (n : Nat) (nms : Nat → ByteArray) (w : World)
set_option maxHeartbeats 4000000 in
theorem Vars_plain (hN : ∀ w, Calls Tryd.prog 25 #[.int .i64 K] w fun e w' => e = .returned (BV nm names ks ins outs (FN f)) ∧ Below w.heap.size w w')
    (hK : (K == 4) = false) (hn : n = ks.size) (hm : n ≤ 100) (h0 : 0 < n) (hF : FldOk names n nms) (ht : Asc w) (h1 : 0 ≤ ins ∧ ins ≤ 100) (h2 : 0 ≤ outs ∧ outs ≤ 100) :
    Calls Tryd.prog 13 #[.int .i64 K] w fun e w' => ∃ g c, e = .returned (.slice (some ⟨g, 0, none⟩) n c) ∧ w.heap.size ≤ g ∧ VrAt w' g n ⟨nms, clsN ins outs, kAt ks, fun _ => .slice none 0 0⟩ ∧ Below w.heap.size w w' := by
  have HN : Hid _ := hN
  have HE : Hid _ := hn
  have HF : Hid _ := hF
  have HT : Hid (Asc w) := ht
  clear hN hn hF ht
  have I : Hid (∃ i, Tryd.prog.info? 59 = some i ∧ i.zero = some (.agg zV) ∧ i.size = 16 ∧ i.bytes = 152) := by
    obtain ⟨i, hi, hz⟩ := Option.map_eq_some_iff.1 (show (Tryd.prog.info? 59).map (fun i => (i.zero, i.size, i.bytes)) = some (some (.agg zV), 16, 152) by kernel_rfl)
    simp only [Prod.mk.injEq] at hz
    exact ⟨i, hi, hz.1, hz.2.1, hz.2.2⟩
  have K2 : ¬ K = 4 := by simpa using hK
  go_enter Tryd.func13, Tryd.ntmps13
  go_wp2_with (first | (go_at_call 25; refine (HN.out _).mono ?_; rintro e w1 ⟨rfl, hb⟩; have HB1 : Hid _ := hb; clear hb) | (refine wpList_store_row rfl 51 _ _ rfl w1.heap.size _ rfl rfl _ _ (heap_alloc_last w1 _) blk_info rfl (by kernel_rfl) ?_; rw [World.setRow_alloc_new]) | (go_at_call 26; refine (Fields_of _ n nms _ HF.out ((HT.out.below HB1.out).below ((Below.refl _ _).alloc (Nat.le_refl _) _))).mono ?_; rintro e w2 ⟨rfl, hnm, hb⟩; have HB2 : Hid _ := hb; have NM : Hid (NmAt w2 _ n nms) := hnm; clear hb hnm))
  have z2 : w1.heap.size + 1 < w2.heap.size := by
    have := block_lt_of_cell (a := ⟨w1.heap.size + 1, 0, none⟩) (by simpa using NM.out 0 h0)
    exact this
  have NM2 : Hid (NmAt w2 (w1.heap.size + 1) n nms) := by have := NM.out; simp at this; exact this
  have zb : w.heap.size ≤ w1.heap.size := HB1.out.size
  have B2 : Hid (Below w.heap.size w w2) := HB1.out.trans ((((Below.refl _ _).alloc (Nat.le_refl _) _).trans (HB2.out.mono (by simp))).mono zb)
  have X2 : Hid (BxAt w2 w1.heap.size nm names ks ins outs (FN f)) := BxAt.below (w := w1.alloc (.cells #[.string nm, .string names, .string ks, .int .i64 ins, .int .i64 outs, FN f] 51)) ⟨by simp, by simp, by simp, by simp, by simp, by simp⟩ HB2.out
  clear HB2 NM
  go_loopw [4, 14] (fun v i wr => ∃ k : Nat, k ≤ n ∧ i = .int .i64 k ∧ wr.ownsRow w2.heap.size 59 16 v k (vrL k ⟨nms, clsN ins outs, kAt ks, fun _ => .slice none 0 0⟩) ∧ Below w2.heap.size w2 wr) (fun _ i _ => n - (intOf i).toNat)
  case atStart => exact ⟨0, Nat.zero_le _, rfl, ⟨rfl, .inl ⟨rfl, rfl⟩⟩, Below.refl _ _⟩
  case round =>
    obtain ⟨k, hk, rfl, hown, hb⟩ := hrel
    have hx := X2.out.below hb
    have hnm := NM2.out.below hb
    have HB : Hid (Below w2.heap.size w2 wr) := hb
    have HX : Hid (BxAt wr w1.heap.size nm names ks ins outs (FN f)) := hx
    have HO : Hid (wr.ownsRow w2.heap.size 59 16 _ k (vrL k ⟨nms, clsN ins outs, kAt ks, fun _ => .slice none 0 0⟩)) := hown
    have HM : Hid (NmAt wr (w1.heap.size + 1) n nms) := hnm
    by_cases hlt : k < n
    · have d := hnm k hlt
      have zr : w1.heap.size + 1 < wr.heap.size := block_lt_of_cell d
      obtain ⟨c0, c1, c2, c3, c4, c5⟩ := hx
      clear hown hb hnm
      have k100 : k ≤ 100 := by omega
      have kks : k < ks.size := by have := HE.out; omega
      go_upto_region 6 with fail
      have e1 := World.new_ne wr ⟨w1.heap.size, 0, none⟩ c0
      go_cut [7] (fun s7 wx => ∃ h, s7 = .pointer (some ⟨h, 0, none⟩) ∧ VbAt wx h (nms k) (clsN ins outs k) (kAt ks k) (.slice none 0 0) ∧ wr.heap.size ≤ h ∧ Below wr.heap.size wr wx)
      case first =>
        go_region_held3 (fun w' => w'.cell? ⟨w1.heap.size, 0, none⟩ = some (.string nm) ∧ w'.cell? ⟨w1.heap.size, 1, none⟩ = some (.string names) ∧ w'.cell? ⟨w1.heap.size, 2, none⟩ = some (.string ks) ∧ w'.cell? ⟨w1.heap.size, 3, none⟩ = some (.int .i64 ins) ∧ w'.cell? ⟨w1.heap.size, 4, none⟩ = some (.int .i64 outs) ∧ w'.cell? ⟨w1.heap.size, 5, none⟩ = some (FN f)) (go_keep)
          (first | (go_at_call 27; refine (class_of _ _ _ _ _ _ _ _ h1 h2 k100).mono ?_; rintro e w5 ⟨rfl, hb5⟩; obtain ⟨q5, f5⟩ := bcell hb5; have s5 := hb5.size; (try simp at s5); have u5 : wr.heap.size ≤ w5.heap.size := (by omega); have g5 : ¬ w5.heap.size = w1.heap.size := (by omega); have B5 : Hid (Below wr.heap.size wr w5) := below_step (by go_grown) hb5; obtain ⟨x0, x1, x2, x3, x4, x5⟩ := HX.out.below B5.out; (try have l5 : wr.heap.size < w5.heap.size := (by omega))) | (go_at_call 28; refine (kind_of _ _ _ _ _ _ _ _ kks).mono ?_; rintro e w6 ⟨rfl, hb6⟩; obtain ⟨q6, f6⟩ := bcell hb6; have s6 := hb6.size; (try simp at s6); have u6 : wr.heap.size ≤ w6.heap.size := (by omega); have g6 : ¬ w6.heap.size = w1.heap.size := (by omega); have B6 : Hid (Below wr.heap.size wr w6) := below_step (by first | exact B5.out | exact B5.out.drew | exact B5.out.alloc B5.out.size _ | exact (B5.out.alloc B5.out.size _).drew) hb6; obtain ⟨y0, y1, y2, y3, y4, y5⟩ := HX.out.below B6.out; (try have l6 : wr.heap.size < w6.heap.size := (by omega)); (try have l7 : w5.heap.size < w6.heap.size := (by omega))))
        all_goals
          go_wp2_with fail
          go_meet
          case rel =>
            refine ⟨_, rfl, ?_, by omega, ?_⟩
            · first | ((with_reducible refine vb16 (h := wr.heap.size) (t := 59) (A := zV) ?_ rfl); exact (hb6.block _ (by omega)).trans ((hb5.block _ (by simp)).trans (heap_alloc_last wr _))) | ((with_reducible refine vb16 (h := w5.heap.size) (t := 59) (A := zV) ?_ rfl); exact (hb6.block _ (by simp)).trans (heap_alloc_last w5 _)) | exact ⟨by simp, by simp, by simp, by simp, by simp, by simp, by simp, by simp, by simp, by simp, by simp, by simp, by simp, by simp, by simp, by simp⟩
            · go_grown
              exact B6.out
      case rest =>
        obtain ⟨h, rfl, hbox, hh, hb7⟩ := hcut
        have HB7 : Hid (Below wr.heap.size wr wc) := hb7
        have HOc : Hid (wc.ownsRow w2.heap.size 59 16 _ k (vrL k ⟨nms, clsN ins outs, kAt ks, fun _ => .slice none 0 0⟩)) := ownsRow_below HO.out hb7
        obtain ⟨o0, o1, o2, o3, o4, o5, o6, o7, o8, o9, o10, o11, o12, o13, o14, o15⟩ := hbox
        clear hb7 c0 c1 c2 c3 c4 c5 d
        go_wp2_with (at_builtin; obtain ⟨i, hi, hz, hs, hy⟩ := I.out; refine wpList_append_own _ rfl _ _ 27 rfl w2.heap.size 59 i _ 16 152 Tryd.underlying27 hi hz hs hy rfl (by decide) _ k _ rfl (ownsRow_below HOc.out ((Below.refl _ _).alloc (Nat.le_refl _) _)) ⟨wc.heap.size, 0, none⟩ 1 1 (vrC (nms k) (clsN ins outs k) (kAt ks k) (.slice none 0 0)) rfl rfl (last_src wc _ _) (vrC_one _ _ _ _ rfl) (by simp [maxLen]; omega) (by omega) (by have := HB.out.size; have := HB7.out.size; simp; omega) ?_; intro v' w' k1 k2 k3; rw [← vrL_succ k ⟨nms, clsN ins outs, kAt ks, fun _ => .slice none 0 0⟩] at k1; have H1 : Hid (w'.ownsRow w2.heap.size 59 16 v' (k + 1) (vrL (k + 1) ⟨nms, clsN ins outs, kAt ks, fun _ => .slice none 0 0⟩)) := k1; have H2 : Hid _ := k2; clear k1 k2 k3 hi hz hs hy)
        have SZ : Hid (w2.heap.size ≤ wc.heap.size) := Nat.le_trans HB.out.size HB7.out.size
        refine ⟨⟨k + 1, by omega, by go_num, H1.out, ((HB.out.trans (HB7.out.mono HB.out.size)).alloc SZ.out _).grown H2.out (by have := SZ.out; simp; omega) (fun g e => own_block HOc.out e)⟩, by simp [intOf]; omega⟩
    · have ek : k = n := by omega
      subst ek
      clear hown hb hx hnm
      go_wp2
      obtain ⟨g, c, rfl, hg, hr⟩ := own_vars HO.out h0
      go_ret
      exact ⟨g, c, rfl, Nat.le_trans B2.out.size hg, hr, B2.out.trans (HB.out.mono B2.out.size)⟩
end
end Go.Proofs.YtjnegbjgogkamaaDoor
