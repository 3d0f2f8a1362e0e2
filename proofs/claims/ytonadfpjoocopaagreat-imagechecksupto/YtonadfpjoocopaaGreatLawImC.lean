/- ImageChecks is proved in its second form: for every image that is of bulk at most 1048576 the statement's function returns true, and it reads as it did. -/
import Derived.Test.YtonadfpjoocopaaGreatYa2
import Derived.Test.YtonadfpjoocopaaGreatImJY
import Derived.Test.YtonadfpjoocopaaGreatCkQY
import Derived.Test.YtonadfpjoocopaaGreatCrKY
import Derived.Test.YtonadfpjoocopaaGreatYb2
import Derived.Test.YtonadfpjoocopaaGreatYa4
import Derived.ShutString
import Derived.ChangeOld
import Derived.Below
import Derived.JoinedCond
namespace Go.Proofs.YtonadfpjoocopaaGreat
set_option linter.unusedVariables false
open Go.RowKit
theorem cellsI {V : World} {g : Nat} {a b c d : Value} {T : TypeId} {f : Nat × Nat} (h : V.heap[g]? = some (.cells #[a, b, c, d] T f)) : V.cell? ⟨g, 0, none⟩ = some a ∧ V.cell? ⟨g, 1, none⟩ = some b ∧ V.cell? ⟨g, 2, none⟩ = some c ∧ V.cell? ⟨g, 3, none⟩ = some d :=
  ⟨by simp [World.cell?, h], by simp [World.cell?, h], by simp [World.cell?, h], by simp [World.cell?, h]⟩
set_option maxRecDepth 20000 in
set_option maxHeartbeats 8000000 in
theorem imchecks_walk (m : ImR) (x1 x2 x3 : Option Addr) (p1 p2 p3 : Nat) (w : World) (ha : ImQ (fun b => b < w.heap.size) w m x1 x2 x3) (ho : ImOk m) :
    Calls Tryz.prog 3 #[.agg #[.string m.nm, .slice x1 m.cs.length p1, .slice x2 m.fs.length p2, .slice x3 m.js.length p3]] w fun e w' => e = .returned (.bool true) ∧ Below w.heap.size w w' := by
  have HA : Hid (∀ V, Below w.heap.size w V → ImQ (fun b => b < V.heap.size) V m x1 x2 x3) := fun V h => ha.old h
  have OK : Hid (ImOk m) := ho
  clear ha ho
  obtain ⟨AW, eW⟩ : ∃ AW, AW = w.alloc (.cells #[.string m.nm, .slice x1 m.cs.length p1, .slice x2 m.fs.length p2, .slice x3 m.js.length p3] 26 (0, 0)) := ⟨_, rfl⟩
  have AB : Hid (Below w.heap.size w AW) := by rw [eW]; exact (Below.refl _ _).alloc (Nat.le_refl _) _
  have AX : Hid (AW.heap[w.heap.size]? = some (.cells #[.string m.nm, .slice x1 m.cs.length p1, .slice x2 m.fs.length p2, .slice x3 m.js.length p3] 26 (0, 0))) := by rw [eW]; exact heap_alloc_last _ _
  obtain ⟨i0, i1, i2, i3⟩ := cellsI AX.out
  go_enter Tryz.func3, Tryz.ntmps3
  go_upto_region 1 with fail
  rw [← eW]
  clear eW
  go_wp2_with (go_at_call 4; refine (Image_of m x1 x2 x3 p1 p2 p3 _ (fun b q => q) (HA.out _ AB.out)).mono ?_)
  first
    | (rintro e w1 ⟨⟨y1, c1, y2, c2, y3, c3, he, hq⟩, hb1⟩)
    | (rintro e w1 y1 c1 y2 c2 y3 c3 he hq hb1)
    | (rintro e w1 ⟨y1, c1, y2, c2, y3, c3, he, hq⟩ hb1)
  subst he
  have B1 : Hid (Below AW.heap.size AW w1) := hb1
  have Q1 : Hid (ImQ (fun b => b < w1.heap.size) w1 m y1 y2 y3) := hq.sub (fun b h => h.2)
  clear hb1 hq i0 i1 i2 i3
  obtain ⟨AR, eR⟩ : ∃ AR, AR = w1.alloc (.cells #[.string m.nm, .slice y1 m.cs.length c1, .slice y2 m.fs.length c2, .slice y3 m.js.length c3] 26 (0, 0)) := ⟨_, rfl⟩
  have RX : Hid (AR.heap[w1.heap.size]? = some (.cells #[.string m.nm, .slice y1 m.cs.length c1, .slice y2 m.fs.length c2, .slice y3 m.js.length c3] 26 (0, 0))) := by rw [eR]; exact heap_alloc_last _ _
  have RB1 : Hid (Below w1.heap.size w1 AR) := by rw [eR]; exact (Below.refl _ _).alloc (Nat.le_refl _) _
  have RB : Hid (∀ V, Below AR.heap.size AR V → Below w.heap.size w V) := fun V h => AB.out.trans ((B1.out.trans ((RB1.out.trans (h.mono RB1.out.size)).mono B1.out.size)).mono AB.out.size)
  have QC : Hid (∀ V, Below AR.heap.size AR V → ImQ (fun b => b < V.heap.size) V m y1 y2 y3) := fun V h => Q1.out.old (RB1.out.trans (h.mono RB1.out.size))
  have QO : Hid (∀ V, Below AR.heap.size AR V → ImQ (fun b => b < V.heap.size) V m x1 x2 x3) := fun V h => HA.out V (RB.out V h)
  have XC : Hid (∀ V, Below AR.heap.size AR V → V.heap[w1.heap.size]? = some (.cells #[.string m.nm, .slice y1 m.cs.length c1, .slice y2 m.fs.length c2, .slice y3 m.js.length c3] 26 (0, 0))) := fun V h => (h.block _ (blk_in RX.out)).trans RX.out
  have XO : Hid (∀ V, Below AR.heap.size AR V → V.heap[w.heap.size]? = some (.cells #[.string m.nm, .slice x1 m.cs.length p1, .slice x2 m.fs.length p2, .slice x3 m.js.length p3] 26 (0, 0))) := fun V h => by
    have a1 := (B1.out.block _ (blk_in AX.out)).trans AX.out
    have a2 := (RB1.out.block _ (blk_in a1)).trans a1
    exact (h.block _ (blk_in a2)).trans a2
  have R0 : Hid (Below AR.heap.size AR AR) := Below.refl _ _
  go_upto_region 2 with fail
  rw [← eR]
  clear eR AX AB B1 Q1 RX RB1 HA
  obtain ⟨j0, j1, j2, j3⟩ := cellsI (XC.out AR R0.out)
  go_wp2_with (go_at_call 5; refine (CheckI_of m y1 y2 y3 c1 c2 c3 _ (fun b q => q) (QC.out _ R0.out) OK.out).mono ?_)
  first | (rintro e w2 ⟨he, hb2⟩) | (rintro e w2 he hb2)
  subst he
  have B2 : Hid (Below AR.heap.size AR w2) := hb2
  clear hb2 j0 j1 j2 j3
  obtain ⟨i0, i1, i2, i3⟩ := cellsI (XO.out w2 B2.out)
  go_upto_region 3 with fail
  go_wp2_with (go_at_call 6; refine (CheckR_of m x1 x2 x3 p1 p2 p3 _ (fun b q => q) (QO.out _ B2.out) OK.out).mono ?_)
  first | (rintro e w3 ⟨he, hb3⟩) | (rintro e w3 he hb3)
  subst he
  have B3 : Hid (Below AR.heap.size AR w3) := B2.out.trans (hb3.mono B2.out.size)
  clear hb3 i0 i1 i2 i3
  unfold t3
  go_upto_region 4 with fail
  generalize (chk m).1 = a
  generalize (chk m).2.1 = b
  generalize (chk m).2.2 = d
  have ea : (a == a) = true := by simp
  have eb : (b == b) = true := by simp
  have ed : (d == d) = true := by simp
  go_wp2_with (go_at_call 7; refine (awake_of _).mono ?_)
  first | (rintro e w4 ⟨he, hb4⟩) | (rintro e w4 he hb4)
  subst he
  have B4 : Hid (Below AR.heap.size AR w4) := B3.out.trans (hb4.mono B3.out.size)
  clear hb4
  obtain ⟨i0, i1, i2, i3⟩ := cellsI (XO.out w4 B4.out)
  obtain ⟨j0, j1, j2, j3⟩ := cellsI (XC.out w4 B4.out)
  go_wp2_with (go_at_call 8; refine (SameImage_of m m y1 y2 y3 x1 x2 x3 c1 c2 c3 p1 p2 p3 _ (fun b q => q) (QC.out _ B4.out) (QO.out _ B4.out)).mono ?_)
  intro e w5 he hb5
  subst he
  have B5 : Hid (Below AR.heap.size AR w5) := B4.out.trans (hb5.mono B4.out.size)
  have em : decide (m = m) = true := by simp
  clear hb5 i0 i1 i2 i3 j0 j1 j2 j3
  go_wp2
  go_ret
  exact ⟨by first | rfl | simp, RB.out _ B5.out⟩
end Go.Proofs.YtonadfpjoocopaaGreat
namespace Go.Proofs.YtonadfpjoocopaaGreat.LawImChecks
set_option linter.unusedVariables false
open Go.ChangeShapes Go.WideShapes Go.ChangeAt Go.RowKit
theorem own : ownKnob Tryz.prog.godebug = none := by kernel_rfl
theorem laidOut : laidOutB Tryz.prog = true := by kernel_rfl
theorem bound {H : Type} {d0 : DataW H} (hk : Rows.uptoSmall H [d0] = true) : Rows.uptoBulk d0 ≤ 1048576 := by
  have h : Rows.uptoBulkAll [d0] ≤ 1048576 := of_decide_eq_true hk
  simp only [Rows.uptoBulkAll] at h
  omega
theorem underM : Tryz.prog.underlying 26 = some (.struct (Tryz.prog.fieldsOf 26)) := by kernel_rfl
theorem cellsM : Tryz.prog.cellsOf 26 = 4 := by kernel_rfl
set_option maxRecDepth 100000 in
theorem open_im {H : Type} {enc : TypeId × Value → H} {W : World} {base b0 : Nat} {spare : Nat → Bool} {held : Bool} {r : Reach} {v : Value} {d : DataW H} {p : List MemPlace}
    (hv : Value.okWide Tryz.prog W r b0 26 v) (h : DataW.Trod enc Tryz.prog W base spare held 26 v d p) (hb : Rows.uptoBulk d ≤ 1048576) :
    ∃ (m : ImR) (x1 x2 x3 : Option Addr) (c1 c2 c3 : Nat), v = .agg #[.string m.nm, .slice x1 m.cs.length c1, .slice x2 m.fs.length c2, .slice x3 m.js.length c3] ∧ ImQ (fun b => b < W.heap.size) W m x1 x2 x3 ∧ ImOk m := by
  obtain ⟨cs, rfl, hsz⟩ := okWide_struct underM hv
  obtain ⟨fuel, hf⟩ := h
  obtain ⟨m, x1, x2, x3, c1, c2, c3, e, q, ok⟩ := rd_Imi (cs := cs.toList) hf (by rw [Array.length_toList]; exact hsz.trans cellsM) hb
  refine ⟨m, x1, x2, x3, c1, c2, c3, ?_, q, ok⟩
  have : cs = (imC m (.slice x1 m.cs.length c1) (.slice x2 m.fs.length c2) (.slice x3 m.js.length c3)).toArray := by rw [← e]
  rw [this]
set_option maxRecDepth 100000 in
theorem contract (H : Type) (enc : TypeId × Value → H) (W : World) (base : Nat) (args : Array Value) (ds gs : List (DataW H)) (before : List MemPlace)
    (hval : ∀ (j : Nat) t v, Tryz.f3.params[j]? = some t → args[j]? = some v → Value.okWide Tryz.prog W .any base t v)
    (hW : DataW.Whole enc Tryz.prog Tryz.f3.params.toList Rows.imageChecksSpec.vars false W args.toList ds gs before) (hk : Rows.uptoSmall H (ds ++ gs) = true) :
    Calls Tryz.prog 3 args W fun e W' => ∃ v, e = .returned v ∧ Rows.imageChecksSpec.post enc Tryz.prog Tryz.f3 false true false false W args v W' := by
  have hW' := hW
  obtain ⟨p, q, hA0, hV, rfl, hfz, hnd⟩ := hW
  have hA : DataW.TrodAll enc Tryz.prog W 0 (fun _ => true) true Tryz.f3.params.toList args.toList ds p := hA0
  rw [Tryz.params3] at hA hval
  obtain ⟨v0, vs0, d0, ds0, p0, q0, hargs, rfl, rfl, h0, r0⟩ := trodAll_cons hA
  obtain ⟨rfl, rfl, rfl⟩ := trodAll_nil r0
  obtain rfl : args = #[v0] := by cases args; simp_all
  obtain ⟨rfl, rfl⟩ := trodVars_none hV
  have k0 := h0
  have lt0 : ∀ x ∈ p0, x.block < W.heap.size := by obtain ⟨m, hm⟩ := k0; exact DataW.trod_lt m _ _ _ hm
  simp only [List.append_nil] at hk
  have b0 := bound hk
  obtain ⟨m0, x1, x2, x3, c1, c2, c3, rfl, s0, k0ok⟩ := open_im (hval 0 26 v0 rfl rfl) h0 b0
  clear hA0
  refine (imchecks_walk m0 x1 x2 x3 c1 c2 c3 W s0 k0ok).mono fun e W' ⟨he, bel⟩ => ?_
  subst he
  exact ⟨_, rfl, _, _, _, [], _, [], hW', trodAll_mk1 (shut_bool Tryz.underlying4 _), (trodAll_cons_mk (Below.trod laidOut (by kernel_rfl) (of_decide_eq_true (by kernel_rfl)) k0 bel lt0) trodAll_mk0), rfl, bel.frame _, fun h => by cases h⟩
set_option maxRecDepth 100000 in
theorem lifted (os : Os) (started : os.Started) (H : Type) (enc : TypeId × Value → H) (F : Stop.Interp) :
    ReturnsInHanded {} Tryz.checked os 3 .any ((Rows.OpenSpec.upto Rows.imageChecksSpec).pre6 enc Tryz.prog Tryz.f3 Rows.imageChecksUptoRow.domain false) (((Rows.OpenSpec.upto Rows.imageChecksSpec).at F).post enc Tryz.prog Tryz.f3 false true false false) := by
  refine returnsInHanded_of_cond (C := Tryz.checked) (s := Rows.OpenSpec.upto Rows.imageChecksSpec) (k := Rows.uptoSmall) rfl own started (by kernel_rfl) Tryz.func3
    (OpenSpec.witness (enc := enc) (C := Tryz.checked) (s := Rows.OpenSpec.upto Rows.imageChecksSpec) (k := Rows.uptoSmall) rfl false ⟨#[], #[.agg #[.string ⟨#[]⟩, .slice none 0 0, .slice none 0 0, .slice none 0 0]], []⟩ 8 (by kernel_rfl) (by kernel_rfl) (by kernel_rfl)
      (x := ([.agg [.lit (.string []), .nil, .nil, .nil]], [], [])) (by kernel_rfl) rfl (by kernel_rfl)) ?_
  intro W base args ds gs before hval hW _ hk _
  exact contract H enc W base args ds gs before hval hW hk
end Go.Proofs.YtonadfpjoocopaaGreat.LawImChecks
namespace Go.Proofs.YtonadfpjoocopaaGreat
/-- THE STATEMENT'S SECOND FORM. -/
theorem imageChecksUpto_proved : Rows.ImageChecksUptoSaid :=
  OpenClaim.holds_of_cond 3 Tryz.f3 rfl rfl rfl rfl rfl rfl rfl ⟨rfl, rfl, rfl, rfl, rfl⟩ rfl rfl rfl rfl rfl (by kernel_rfl) Tryz.func3 (by kernel_rfl)
    (of_decide_eq_true (by kernel_rfl)) (by unfold Func.isWrapper; first | (rw [if_pos (by decide +kernel)]; kernel_rfl) | (rw [if_neg (by decide +kernel)]; exact ⟨rfl, rfl⟩))
    (fun os started H enc _ F => LawImChecks.lifted os started H enc F)
end Go.Proofs.YtonadfpjoocopaaGreat
