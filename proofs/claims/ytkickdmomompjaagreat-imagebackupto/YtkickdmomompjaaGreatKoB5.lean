/- image: what a reader reads may be checked; no statement of the seat is proved here. -/
import Derived.Test.YtkickdmomompjaaGreatKoA8
import Derived.Test.YtkickdmomompjaaGreatKoA9
import Derived.Deep.RegionHeld3
import Derived.Test.YtkickdmomompjaaGreatKoB2
import Derived.Test.YtkickdmomompjaaGreatKoB3
import Derived.Test.YtkickdmomompjaaGreatKoA5
import Derived.Test.YtkickdmomompjaaGreatKoA4
import Derived.Test.YtkickdmomompjaaGreatKoA1
namespace Go.Proofs.YtkickdmomompjaaGreat
set_option linter.unusedVariables false
set_option linter.unusedSimpArgs false
open Go.RowKit
theorem imageM (g kb o c : Nat) (bs : List Nat) (s : RS) (w : World) (h : Rd g kb o c bs s w) : Calls Tryz.prog 41 #[.pointer (some ⟨g, 0, none⟩)] w fun e w' => (∃ x1 c1 x2 c2 x3 c3, e = .returned (.agg #[.string (rdIm bs s).1.nm, .slice x1 (rdIm bs s).1.cs.length c1, .slice x2 (rdIm bs s).1.fs.length c2, .slice x3 (rdIm bs s).1.js.length c3]) ∧ ImQ (Fresh w.heap.size w'.heap.size) w' (rdIm bs s).1 x1 x2 x3) ∧ Rd g kb o c bs (rdIm bs s).2 w' ∧ w.grownBy w' (some g) :=
  (imageG g kb o c bs s (kimA bs s) (kimB bs s) (kimD bs s) (rdIm bs s).2 _ _ _ _ (txtM g kb o c bs s) (RlC g kb o c bs (rdCe bs) (cellM g kb o c bs) _) (RlF g kb o c bs (rdFl bs) (codeM g kb o c bs) _) (RlJ g kb o c bs (rdJb bs) (jobM g kb o c bs) _) w h).mono
    fun e w' ⟨⟨y1, c1, y2, c2, y3, c3, he, q1, q2, q3⟩, h1, g1⟩ => ⟨⟨y1, c1, y2, c2, y3, c3, he, q1, q2, q3⟩, h1, g1⟩
/-- Behind an image's end there must be nothing. -/
def rdEnd (bs : List Nat) (s : RS) : RS := if s.p < bs.length then (if s.y = 0 then ⟨s.p, s.p, 3⟩ else s) else s
theorem RdAt.mk' {g : Nat} {x : Option Addr} {n c p : Nat} {a y : Int} {V : World} (h : V.heap[g]? = some (.cells #[.slice x n c, .int .i64 p, .int .i64 a, .int .i64 y] 96 (0, 0))) : RdAt g x n c p a y V := h
theorem results_cell_row_2 {P : Program} {fn : Func} {p u v : Tmp} {ty : TypeId} (h : fn.results = #[.cell p ty, .tmp u, .tmp v]) (tmps : Array Value) (w : World) (g : Nat) (t : TypeId) (cs : Array Value) (fr : Nat × Nat) (d : TypeDesc)
    (hp : tmps.getD p undef = .pointer (some ⟨g, 0, none⟩)) (hg : w.heap[g]? = some (.cells cs t fr))
    (hu : P.underlying ty = some d) (hd : (match d with | .struct _ | .array _ _ => true | _ => false) = true) (hi : (P.info? ty).map (·.size) = some cs.size) :
    (results fn tmps).run P w = .ok (.tuple #[.agg cs, tmps.getD u undef, tmps.getD v undef]) w := by
  have hp' : tmps[p]?.getD undef = .pointer (some ⟨g, 0, none⟩) := by simpa using hp
  simp [results, h, hp', asAddr, run_loadVar_row w g t ty cs fr d hg hu hd hi, Sem.run_bind, Result.andThen]
theorem row_below_d {w V : World} {G : Nat} (h : Below w.heap.size w V) (hG : w.heap.size ≤ G) (vs : Array Value) : Below w.heap.size w (V.setRow G vs) :=
  h.trans ⟨rfl, rfl, rfl, by simp [World.setRow], fun k hk => setRow_other _ _ _ _ (by omega)⟩
theorem gb_below {w V V' : World} {g : Nat} (h : w.heap.size ≤ g) (hb : Below w.heap.size w V) (hg : V.grownBy V' (some g)) : Below w.heap.size w V' :=
  hb.trans ⟨hg.os, hg.tape, hg.output, hg.size, fun k hk => hg.block k (Nat.lt_of_lt_of_le hk hb.size) (fun e => by cases e; omega)⟩
set_option maxRecDepth 20000 in
set_option maxHeartbeats 8000000 in
theorem readX (kb o c : Nat) (bs : List Nat) (w : World) (hB : ByAt kb o bs w) (h4 : 4 ≤ bs.length) (hn : bs.length ≤ 4194304) (hc : bs.length < c) (hk : kb < w.heap.size) (h8 : ∀ v ∈ bs, v < 256) :
    Calls Tryz.prog 17 #[.slice (some ⟨kb, o, none⟩) bs.length c] w fun e w' => (∃ x1 c1 x2 c2 x3 c3, e = .returned (.tuple #[.agg #[.string (rdIm bs ⟨4, 0, 0⟩).1.nm, .slice x1 (rdIm bs ⟨4, 0, 0⟩).1.cs.length c1, .slice x2 (rdIm bs ⟨4, 0, 0⟩).1.fs.length c2, .slice x3 (rdIm bs ⟨4, 0, 0⟩).1.js.length c3], .int .i64 (rdEnd bs (rdIm bs ⟨4, 0, 0⟩).2).a, .int .i64 (rdEnd bs (rdIm bs ⟨4, 0, 0⟩).2).y]) ∧ ImQ (Fresh w.heap.size w'.heap.size) w' (rdIm bs ⟨4, 0, 0⟩).1 x1 x2 x3) ∧ Below w.heap.size w w' := by
  have IM : Hid (∀ g W, Rd g kb o c bs ⟨4, 0, 0⟩ W → Calls Tryz.prog 41 #[.pointer (some ⟨g, 0, none⟩)] W fun e w' => (∃ x1 c1 x2 c2 x3 c3, e = .returned (.agg #[.string (rdIm bs ⟨4, 0, 0⟩).1.nm, .slice x1 (rdIm bs ⟨4, 0, 0⟩).1.cs.length c1, .slice x2 (rdIm bs ⟨4, 0, 0⟩).1.fs.length c2, .slice x3 (rdIm bs ⟨4, 0, 0⟩).1.js.length c3]) ∧ ImQ (Fresh W.heap.size w'.heap.size) w' (rdIm bs ⟨4, 0, 0⟩).1 x1 x2 x3) ∧ Rd g kb o c bs (rdIm bs ⟨4, 0, 0⟩).2 w' ∧ W.grownBy w' (some g)) := fun g W h => imageM g kb o c bs _ W h
  generalize (rdIm bs ⟨4, 0, 0⟩).1 = m at *
  generalize (rdIm bs ⟨4, 0, 0⟩).2 = t at *
  obtain ⟨u, eu⟩ : ∃ u, rdEnd bs t = u := ⟨_, rfl⟩
  rw [eu]
  have RE : Hid (rdEnd bs t = u) := eu
  clear eu
  obtain ⟨G, hG⟩ : ∃ G, w.heap.size = G := ⟨_, rfl⟩
  obtain ⟨AW, eW⟩ : ∃ AW, AW = w.alloc (.cells #[.string ⟨#[]⟩, .slice none 0 0, .slice none 0 0, .slice none 0 0] 26 (0, 0)) := ⟨_, rfl⟩
  obtain ⟨AR, eR⟩ : ∃ AR, AR = AW.alloc (.cells #[.slice (some ⟨kb, o, none⟩) bs.length c, .int .i64 4, .int .i64 0, .int .i64 0] 96 (0, 0)) := ⟨_, rfl⟩
  have SW : AW.heap.size = G + 1 := by rw [eW, ← hG]; simp
  have AB : Hid (Below w.heap.size w AW) := by rw [eW]; exact (Below.refl _ _).alloc (Nat.le_refl _) _
  have AX : Hid (AW.heap[G]? = some (.cells #[.string ⟨#[]⟩, .slice none 0 0, .slice none 0 0, .slice none 0 0] 26 (0, 0))) := by rw [eW, ← hG]; exact heap_alloc_last _ _
  have RX : Hid (AR.heap[G + 1]? = some (.cells #[.slice (some ⟨kb, o, none⟩) bs.length c, .int .i64 4, .int .i64 0, .int .i64 0] 96 (0, 0))) := by rw [eR, ← SW]; exact heap_alloc_last _ _
  have GR : Hid (AW.grownBy AR none) := by rw [eR]; exact gb_alloc _ _ _
  have KG : Hid (kb < G) := by show _ < _; omega
  have R0 : Hid (Rd (G + 1) kb o c bs ⟨4, 0, 0⟩ AR) := ⟨RdAt.mk' RX.out, fun j v hj => GR.out.cell ((AB.out.cell hk).trans (hB j v hj)) (by simp), h4, hn, hc, by omega, by have := GR.out.size; omega, h8⟩
  have B0 : Hid (Below w.heap.size w AR) := AB.out.trans ⟨GR.out.os, GR.out.tape, GR.out.output, GR.out.size, fun k hk => GR.out.block k (by omega) (by simp)⟩
  have X0 : Hid (AR.heap[G]? = some (.cells #[.string ⟨#[]⟩, .slice none 0 0, .slice none 0 0, .slice none 0 0] 26 (0, 0))) := (GR.out.block _ (by omega) (by simp)).trans AX.out
  have HG : Hid (w.heap.size = G) := hG
  clear AB AX RX GR hB h4 hn hc hk h8
  go_enter Tryz.func17, Tryz.ntmps17
  go_upto_region 1 with fail
  rw [← eW]
  clear eW
  go_upto_region 2 with fail
  try rw [SW]
  try rw [← eR]
  clear eR hG
  go_wp2_with (go_at_call 41; refine (IM.out _ _ R0.out).mono ?_)
  first | (rintro e w1 ⟨⟨x1, c1, x2, c2, x3, c3, he, q1⟩, h1, g1⟩; have he' := he) | (rintro e w1 x1 c1 x2 c2 x3 c3 he q1 h1 g1)
  subst he
  obtain ⟨H, hH⟩ : ∃ H, w1.heap.size = H := ⟨_, rfl⟩
  obtain ⟨W2, e2⟩ : ∃ W2, W2 = w1.alloc (.cells #[.string m.nm, .slice x1 m.cs.length c1, .slice x2 m.fs.length c2, .slice x3 m.js.length c3] 26 (0, 0)) := ⟨_, rfl⟩
  have YX : Hid (W2.heap[H]? = some (.cells #[.string m.nm, .slice x1 m.cs.length c1, .slice x2 m.fs.length c2, .slice x3 m.js.length c3] 26 (0, 0))) := by rw [e2, ← hH]; exact heap_alloc_last _ _
  have S1 := g1.size
  have SR : Hid (G + 2 ≤ AR.heap.size) := by have := blk_in' R0.out.at_; show _ ≤ _; omega
  have HL : Hid (G + 2 ≤ H) := by have := SR.out; show _ ≤ _; omega
  have G2 : Hid (w1.grownBy W2 none) := by rw [e2]; exact gb_alloc _ _ _
  have R2 : Hid (Rd (G + 1) kb o c bs t W2) := h1.other G2.out h1.lt
  have B1 : Hid (Below w.heap.size w w1) := gb_below (by have := HG.out; omega) B0.out g1
  have B2 : Hid (Below w.heap.size w W2) := B1.out.trans ⟨G2.out.os, G2.out.tape, G2.out.output, G2.out.size, fun k hk => G2.out.block k (by have := B1.out.size; omega) (by simp)⟩
  have X2 : Hid (W2.heap[G]? = some (.cells #[.string ⟨#[]⟩, .slice none 0 0, .slice none 0 0, .slice none 0 0] 26 (0, 0))) := (G2.out.block G (by have := HL.out; omega) (by simp)).trans ((g1.block G (by have := SR.out; omega) (by simp)).trans X0.out)
  have Q2 : Hid (ImQ (Fresh (G + 2) H) W2 m x1 x2 x3) := (q1.sub (up_sub' SR.out (by omega))).fr (fun q hq => World.cell?_of_block (G2.out.block _ (by have := hq.2; omega) (by simp)))
  clear q1 h1 g1 R0 B0 X0 B1 IM G2 S1 SR
  go_upto_region 3 with fail
  rw [← e2]
  clear e2 hH
  obtain ⟨p, a, y⟩ := t
  have RX : Hid (W2.heap[G + 1]? = some (.cells #[.slice (some ⟨kb, o, none⟩) bs.length c, .int .i64 p, .int .i64 a, .int .i64 y] 96 (0, 0))) := R2.out.at_
  have LE : Hid (p ≤ bs.length) := R2.out.le
  obtain ⟨d0, d1, d2, d3⟩ := R2.out.at_.cs
  by_cases hp : p < bs.length
  · have hp' : (p : Int) < bs.length := by omega
    have FX : Hid (Calls Tryz.prog 42 #[.pointer (some ⟨G + 1, 0, none⟩), .int .i64 p, .int .i64 3] W2 fun e w' => e = .returned (.tuple #[]) ∧ RdAt (G + 1) (some ⟨kb, o, none⟩) bs.length c p (if y = 0 then (p : Int) else a) (if y = 0 then 3 else y) w' ∧ W2.grownBy w' (some (G + 1))) := failX (G + 1) _ _ _ p a y p 3 W2 R2.out.at_
    have UV : Hid (u.a = (if y = 0 then (p : Int) else a) ∧ u.y = (if y = 0 then 3 else y)) := by
      have q := RE.out
      unfold rdEnd at q
      rw [if_pos (show (⟨p, a, y⟩ : RS).p < bs.length from hp)] at q
      show _ ∧ _
      rw [← q]
      by_cases z : y = 0 <;> simp [z]
    generalize (if y = 0 then (p : Int) else a) = a2 at *
    generalize (if y = 0 then (3 : Int) else y) = y2 at *
    clear hp
    go_upto_region 4 with fail
    go_wp2_with (go_at_call 42; refine (FX.out).mono ?_)
    first | (rintro e w3 ⟨he, h3, g3⟩; have he' := he) | (rintro e w3 he h3 g3)
    subst he
    have YH := blk_in' YX.out
    have YX : Hid (w3.heap[H]? = some (.cells #[.string m.nm, .slice x1 m.cs.length c1, .slice x2 m.fs.length c2, .slice x3 m.js.length c3] 26 (0, 0))) := (g3.block H YH (by intro q; cases q; have := HL.out; omega)).trans YX.out
    have RX : Hid (w3.heap[G + 1]? = some (.cells #[.slice (some ⟨kb, o, none⟩) bs.length c, .int .i64 p, .int .i64 a2, .int .i64 y2] 96 (0, 0))) := h3
    have XX : Hid (w3.heap[G]? = some (.cells #[.string ⟨#[]⟩, .slice none 0 0, .slice none 0 0, .slice none 0 0] 26 (0, 0))) := (g3.block G (by have := HL.out; omega) (by intro q; cases q)).trans X2.out
    have BB : Hid (Below w.heap.size w w3) := gb_below (by have := HG.out; omega) B2.out g3
    have QQ : Hid (ImQ (Fresh (G + 2) H) w3 m x1 x2 x3) := Q2.out.fr (fun q hq => World.cell?_of_block (g3.block _ (by have := hq.2; omega) (by intro e; have e := Option.some.inj e; have := hq.1; omega)))
    clear h3 g3 YH FX R2 B2 X2 Q2 d0 d1 d2 d3
    go_upto_region 5 with fail
    refine wp_region_J 13 (fun V => V.heap[H]? = some (.cells #[.string m.nm, .slice x1 m.cs.length c1, .slice x2 m.fs.length c2, .slice x3 m.js.length c3] 26 (0, 0)) ∧ V.heap[G + 1]? = some (.cells #[.slice (some ⟨kb, o, none⟩) bs.length c, .int .i64 p, .int .i64 a2, .int .i64 y2] 96 (0, 0))) (by kernel_rfl) ⟨YX.out, RX.out⟩ (fun hHeld => ?_)
    refine wpAnyJ_take (i := 0) (v := .agg #[.string m.nm, .slice x1 m.cs.length c1, .slice x2 m.fs.length c2, .slice x3 m.js.length c3]) rfl (by kernel_rfl) (by kernel_rfl) (by kernel_rfl) (by kernel_rfl) (fun _ _ _ h => h) (Or.inl ⟨by rfl, fun V hV => ?_⟩) hHeld ?_
    · have k0 : V.cell? ⟨H, 0, none⟩ = some (.string m.nm) := by simp [World.cell?, hV.1]
      have k1 : V.cell? ⟨H, 1, none⟩ = some (.slice x1 m.cs.length c1) := by simp [World.cell?, hV.1]
      have k2 : V.cell? ⟨H, 2, none⟩ = some (.slice x2 m.fs.length c2) := by simp [World.cell?, hV.1]
      have k3 : V.cell? ⟨H, 3, none⟩ = some (.slice x3 m.js.length c3) := by simp [World.cell?, hV.1]
      go_simp
    simp only [Act.put, List.setIfInBounds_toArray, List.getElem_toArray, List.getElem_cons_zero, List.getElem_cons_succ, List.set_cons_zero, List.set_cons_succ]
    refine wpAnyJ_take (i := 1) (v := .pointer (some ⟨G + 1, 0, none⟩)) rfl (by kernel_rfl) (by kernel_rfl) (by kernel_rfl) (by kernel_rfl) (fun _ _ _ h => h) (Or.inl ⟨by rfl, fun V hV => ?_⟩) hHeld ?_
    · go_simp
    simp only [Act.put, List.setIfInBounds_toArray, List.getElem_toArray, List.getElem_cons_zero, List.getElem_cons_succ, List.set_cons_zero, List.set_cons_succ]
    refine wpAnyJ_take (i := 2) (v := .pointer (some ⟨G + 1, 0, none⟩)) rfl (by kernel_rfl) (by kernel_rfl) (by kernel_rfl) (by kernel_rfl) (fun _ _ _ h => h) (Or.inl ⟨by rfl, fun V hV => ?_⟩) hHeld ?_
    · go_simp
    simp only [Act.put, List.setIfInBounds_toArray, List.getElem_toArray, List.getElem_cons_zero, List.getElem_cons_succ, List.set_cons_zero, List.set_cons_succ]
    refine wpAnyJ_take (i := 3) (v := .pointer (some ⟨G + 1, 2, none⟩)) rfl (by kernel_rfl) (by kernel_rfl) (by kernel_rfl) (by kernel_rfl) (fun _ _ _ h => h) (Or.inl ⟨by rfl, fun V hV => ?_⟩) hHeld ?_
    · go_simp
    simp only [Act.put, List.setIfInBounds_toArray, List.getElem_toArray, List.getElem_cons_zero, List.getElem_cons_succ, List.set_cons_zero, List.set_cons_succ]
    refine wpAnyJ_take (i := 4) (v := .pointer (some ⟨G + 1, 2, none⟩)) rfl (by kernel_rfl) (by kernel_rfl) (by kernel_rfl) (by kernel_rfl) (fun _ _ _ h => h) (Or.inl ⟨by rfl, fun V hV => ?_⟩) hHeld ?_
    · go_simp
    simp only [Act.put, List.setIfInBounds_toArray, List.getElem_toArray, List.getElem_cons_zero, List.getElem_cons_succ, List.set_cons_zero, List.set_cons_succ]
    refine wpAnyJ_take (i := 5) (v := .int .i64 a2) rfl (by kernel_rfl) (by kernel_rfl) (by kernel_rfl) (by kernel_rfl) (fun _ _ _ h => h) (Or.inl ⟨by rfl, fun V hV => ?_⟩) hHeld ?_
    · have k2 : V.cell? ⟨G + 1, 2, none⟩ = some (.int .i64 a2) := by simp [World.cell?, hV.2]
      go_simp
    simp only [Act.put, List.setIfInBounds_toArray, List.getElem_toArray, List.getElem_cons_zero, List.getElem_cons_succ, List.set_cons_zero, List.set_cons_succ]
    refine wpAnyJ_take (i := 6) (v := .pointer (some ⟨G + 1, 0, none⟩)) rfl (by kernel_rfl) (by kernel_rfl) (by kernel_rfl) (by kernel_rfl) (fun _ _ _ h => h) (Or.inl ⟨by rfl, fun V hV => ?_⟩) hHeld ?_
    · go_simp
    simp only [Act.put, List.setIfInBounds_toArray, List.getElem_toArray, List.getElem_cons_zero, List.getElem_cons_succ, List.set_cons_zero, List.set_cons_succ]
    refine wpAnyJ_take (i := 7) (v := .pointer (some ⟨G + 1, 0, none⟩)) rfl (by kernel_rfl) (by kernel_rfl) (by kernel_rfl) (by kernel_rfl) (fun _ _ _ h => h) (Or.inl ⟨by rfl, fun V hV => ?_⟩) hHeld ?_
    · go_simp
    simp only [Act.put, List.setIfInBounds_toArray, List.getElem_toArray, List.getElem_cons_zero, List.getElem_cons_succ, List.set_cons_zero, List.set_cons_succ]
    refine wpAnyJ_take (i := 8) (v := .pointer (some ⟨G + 1, 2, none⟩)) rfl (by kernel_rfl) (by kernel_rfl) (by kernel_rfl) (by kernel_rfl) (fun _ _ _ h => h) (Or.inl ⟨by rfl, fun V hV => ?_⟩) hHeld ?_
    · go_simp
    simp only [Act.put, List.setIfInBounds_toArray, List.getElem_toArray, List.getElem_cons_zero, List.getElem_cons_succ, List.set_cons_zero, List.set_cons_succ]
    refine wpAnyJ_take (i := 9) (v := .pointer (some ⟨G + 1, 3, none⟩)) rfl (by kernel_rfl) (by kernel_rfl) (by kernel_rfl) (by kernel_rfl) (fun _ _ _ h => h) (Or.inl ⟨by rfl, fun V hV => ?_⟩) hHeld ?_
    · go_simp
    simp only [Act.put, List.setIfInBounds_toArray, List.getElem_toArray, List.getElem_cons_zero, List.getElem_cons_succ, List.set_cons_zero, List.set_cons_succ]
    refine wpAnyJ_take (i := 10) (v := .int .i64 y2) rfl (by kernel_rfl) (by kernel_rfl) (by kernel_rfl) (by kernel_rfl) (fun _ _ _ h => h) (Or.inl ⟨by rfl, fun V hV => ?_⟩) hHeld ?_
    · have k3 : V.cell? ⟨G + 1, 3, none⟩ = some (.int .i64 y2) := by simp [World.cell?, hV.2]
      go_simp
    simp only [Act.put, List.setIfInBounds_toArray, List.getElem_toArray, List.getElem_cons_zero, List.getElem_cons_succ, List.set_cons_zero, List.set_cons_succ]
    have X4 : w3.drew.heap[G]? = some (.cells #[.string ⟨#[]⟩, .slice none 0 0, .slice none 0 0, .slice none 0 0] 26 (0, 0)) := XX.out
    refine wpAnyJ_one (i := 11) (by kernel_rfl) rfl (fun K hK => ?_)
    rw [if_pos (by rfl)]
    refine wp_store_row 26 (.tmp 2) (.tmp 25) rfl G #[.string m.nm, .slice x1 m.cs.length c1, .slice x2 m.fs.length c2, .slice x3 m.js.length c3] rfl rfl 26 _ X4 (show (Tryz.prog.info? 26).map (·.size) = some 4 by kernel_rfl) rfl (by kernel_rfl) ?_
    refine hK.out _ _ (fun _ => ⟨(setRow_other _ _ _ _ (by have := HL.out; omega)).trans YX.out, (setRow_other _ _ _ _ (by omega)).trans RX.out⟩) ?_
    clear hK K
    simp only [Act.put, List.setIfInBounds_toArray, List.getElem_toArray, List.getElem_cons_zero, List.getElem_cons_succ, List.set_cons_zero, List.set_cons_succ]
    refine wpAnyJ_one (i := 12) (by kernel_rfl) rfl (fun K hK => ?_)
    go_simp
    refine hK.out _ _ (fun _ => ⟨(setRow_other _ _ _ _ (by have := HL.out; omega)).trans YX.out, (setRow_other _ _ _ _ (by omega)).trans RX.out⟩) ?_
    clear hK K
    refine wpAnyJ_one (i := 13) (by kernel_rfl) rfl (fun K hK => ?_)
    go_simp
    refine hK.out _ _ (fun h => nomatch (show true = false from h)) ?_
    clear hK K
    refine wpAnyJ_done (by kernel_rfl) ?_ _
    have hz := setRow_heap w3.drew G _ (#[.string m.nm, .slice x1 m.cs.length c1, .slice x2 m.fs.length c2, .slice x3 m.js.length c3]) _ _ X4
    have BZ : Hid (Below w.heap.size w (w3.drew.setRow G #[.string m.nm, .slice x1 m.cs.length c1, .slice x2 m.fs.length c2, .slice x3 m.js.length c3])) := row_below_d BB.out.drew (by have := HG.out; omega) _
    have QZ : Hid (ImQ (Fresh (G + 2) H) (w3.drew.setRow G #[.string m.nm, .slice x1 m.cs.length c1, .slice x2 m.fs.length c2, .slice x3 m.js.length c3]) m x1 x2 x3) := QQ.out.fr (fun q hq => World.cell?_of_block (setRow_other _ _ _ _ (by have := hq.1; omega)))
    have SZ : Hid (H ≤ (w3.drew.setRow G #[.string m.nm, .slice x1 m.cs.length c1, .slice x2 m.fs.length c2, .slice x3 m.js.length c3]).heap.size) := by have := blk_in' YX.out; show _ ≤ _; simpa [World.setRow] using Nat.le_of_lt this
    generalize w3.drew.setRow G #[.string m.nm, .slice x1 m.cs.length c1, .slice x2 m.fs.length c2, .slice x3 m.js.length c3] = W5 at hz BZ QZ SZ ⊢
    clear hHeld X4
    go_step
    go_wp2
    refine bodyPost_ret (v := .tuple #[.agg #[.string m.nm, .slice x1 m.cs.length c1, .slice x2 m.fs.length c2, .slice x3 m.js.length c3], .int .i64 a2, .int .i64 y2]) (results_cell_row_2 Tryz.results17 _ _ G _ _ (0, 0) _ (by first | rfl | simp [Act.put]) hz Tryz.underlying26 rfl (show (Tryz.prog.info? 26).map (·.size) = some 4 by kernel_rfl)) rfl ?_
    obtain ⟨ua, uy⟩ := UV.out
    first | exact ⟨⟨x1, c1, x2, c2, x3, ⟨c3, by rw [ua, uy]⟩, QZ.out.sub (up_sub' (by have := HG.out; omega) SZ.out)⟩, BZ.out⟩ | exact ⟨⟨x1, c1, x2, c2, x3, c3, by rw [ua, uy], QZ.out.sub (up_sub' (by have := HG.out; omega) SZ.out)⟩, BZ.out⟩
  · have hp' : ¬ (p : Int) < bs.length := by omega
    have UV : Hid (u.a = a ∧ u.y = y) := by
      have q := RE.out
      unfold rdEnd at q
      rw [if_neg (show ¬ (⟨p, a, y⟩ : RS).p < bs.length from hp)] at q
      show _ ∧ _
      rw [← q]
      exact ⟨rfl, rfl⟩
    clear hp
    have BB : Hid (Below w.heap.size w W2) := B2.out
    have QQ : Hid (ImQ (Fresh (G + 2) H) W2 m x1 x2 x3) := Q2.out
    have XX : Hid (W2.heap[G]? = some (.cells #[.string ⟨#[]⟩, .slice none 0 0, .slice none 0 0, .slice none 0 0] 26 (0, 0))) := X2.out
    go_upto_region 5 with fail
    refine wp_region_J 13 (fun V => V.heap[H]? = some (.cells #[.string m.nm, .slice x1 m.cs.length c1, .slice x2 m.fs.length c2, .slice x3 m.js.length c3] 26 (0, 0)) ∧ V.heap[G + 1]? = some (.cells #[.slice (some ⟨kb, o, none⟩) bs.length c, .int .i64 p, .int .i64 a, .int .i64 y] 96 (0, 0))) (by kernel_rfl) ⟨YX.out, RX.out⟩ (fun hHeld => ?_)
    refine wpAnyJ_take (i := 0) (v := .agg #[.string m.nm, .slice x1 m.cs.length c1, .slice x2 m.fs.length c2, .slice x3 m.js.length c3]) rfl (by kernel_rfl) (by kernel_rfl) (by kernel_rfl) (by kernel_rfl) (fun _ _ _ h => h) (Or.inl ⟨by rfl, fun V hV => ?_⟩) hHeld ?_
    · have k0 : V.cell? ⟨H, 0, none⟩ = some (.string m.nm) := by simp [World.cell?, hV.1]
      have k1 : V.cell? ⟨H, 1, none⟩ = some (.slice x1 m.cs.length c1) := by simp [World.cell?, hV.1]
      have k2 : V.cell? ⟨H, 2, none⟩ = some (.slice x2 m.fs.length c2) := by simp [World.cell?, hV.1]
      have k3 : V.cell? ⟨H, 3, none⟩ = some (.slice x3 m.js.length c3) := by simp [World.cell?, hV.1]
      go_simp
    simp only [Act.put, List.setIfInBounds_toArray, List.getElem_toArray, List.getElem_cons_zero, List.getElem_cons_succ, List.set_cons_zero, List.set_cons_succ]
    refine wpAnyJ_take (i := 1) (v := .pointer (some ⟨G + 1, 0, none⟩)) rfl (by kernel_rfl) (by kernel_rfl) (by kernel_rfl) (by kernel_rfl) (fun _ _ _ h => h) (Or.inl ⟨by rfl, fun V hV => ?_⟩) hHeld ?_
    · go_simp
    simp only [Act.put, List.setIfInBounds_toArray, List.getElem_toArray, List.getElem_cons_zero, List.getElem_cons_succ, List.set_cons_zero, List.set_cons_succ]
    refine wpAnyJ_take (i := 2) (v := .pointer (some ⟨G + 1, 0, none⟩)) rfl (by kernel_rfl) (by kernel_rfl) (by kernel_rfl) (by kernel_rfl) (fun _ _ _ h => h) (Or.inl ⟨by rfl, fun V hV => ?_⟩) hHeld ?_
    · go_simp
    simp only [Act.put, List.setIfInBounds_toArray, List.getElem_toArray, List.getElem_cons_zero, List.getElem_cons_succ, List.set_cons_zero, List.set_cons_succ]
    refine wpAnyJ_take (i := 3) (v := .pointer (some ⟨G + 1, 2, none⟩)) rfl (by kernel_rfl) (by kernel_rfl) (by kernel_rfl) (by kernel_rfl) (fun _ _ _ h => h) (Or.inl ⟨by rfl, fun V hV => ?_⟩) hHeld ?_
    · go_simp
    simp only [Act.put, List.setIfInBounds_toArray, List.getElem_toArray, List.getElem_cons_zero, List.getElem_cons_succ, List.set_cons_zero, List.set_cons_succ]
    refine wpAnyJ_take (i := 4) (v := .pointer (some ⟨G + 1, 2, none⟩)) rfl (by kernel_rfl) (by kernel_rfl) (by kernel_rfl) (by kernel_rfl) (fun _ _ _ h => h) (Or.inl ⟨by rfl, fun V hV => ?_⟩) hHeld ?_
    · go_simp
    simp only [Act.put, List.setIfInBounds_toArray, List.getElem_toArray, List.getElem_cons_zero, List.getElem_cons_succ, List.set_cons_zero, List.set_cons_succ]
    refine wpAnyJ_take (i := 5) (v := .int .i64 a) rfl (by kernel_rfl) (by kernel_rfl) (by kernel_rfl) (by kernel_rfl) (fun _ _ _ h => h) (Or.inl ⟨by rfl, fun V hV => ?_⟩) hHeld ?_
    · have k2 : V.cell? ⟨G + 1, 2, none⟩ = some (.int .i64 a) := by simp [World.cell?, hV.2]
      go_simp
    simp only [Act.put, List.setIfInBounds_toArray, List.getElem_toArray, List.getElem_cons_zero, List.getElem_cons_succ, List.set_cons_zero, List.set_cons_succ]
    refine wpAnyJ_take (i := 6) (v := .pointer (some ⟨G + 1, 0, none⟩)) rfl (by kernel_rfl) (by kernel_rfl) (by kernel_rfl) (by kernel_rfl) (fun _ _ _ h => h) (Or.inl ⟨by rfl, fun V hV => ?_⟩) hHeld ?_
    · go_simp
    simp only [Act.put, List.setIfInBounds_toArray, List.getElem_toArray, List.getElem_cons_zero, List.getElem_cons_succ, List.set_cons_zero, List.set_cons_succ]
    refine wpAnyJ_take (i := 7) (v := .pointer (some ⟨G + 1, 0, none⟩)) rfl (by kernel_rfl) (by kernel_rfl) (by kernel_rfl) (by kernel_rfl) (fun _ _ _ h => h) (Or.inl ⟨by rfl, fun V hV => ?_⟩) hHeld ?_
    · go_simp
    simp only [Act.put, List.setIfInBounds_toArray, List.getElem_toArray, List.getElem_cons_zero, List.getElem_cons_succ, List.set_cons_zero, List.set_cons_succ]
    refine wpAnyJ_take (i := 8) (v := .pointer (some ⟨G + 1, 2, none⟩)) rfl (by kernel_rfl) (by kernel_rfl) (by kernel_rfl) (by kernel_rfl) (fun _ _ _ h => h) (Or.inl ⟨by rfl, fun V hV => ?_⟩) hHeld ?_
    · go_simp
    simp only [Act.put, List.setIfInBounds_toArray, List.getElem_toArray, List.getElem_cons_zero, List.getElem_cons_succ, List.set_cons_zero, List.set_cons_succ]
    refine wpAnyJ_take (i := 9) (v := .pointer (some ⟨G + 1, 3, none⟩)) rfl (by kernel_rfl) (by kernel_rfl) (by kernel_rfl) (by kernel_rfl) (fun _ _ _ h => h) (Or.inl ⟨by rfl, fun V hV => ?_⟩) hHeld ?_
    · go_simp
    simp only [Act.put, List.setIfInBounds_toArray, List.getElem_toArray, List.getElem_cons_zero, List.getElem_cons_succ, List.set_cons_zero, List.set_cons_succ]
    refine wpAnyJ_take (i := 10) (v := .int .i64 y) rfl (by kernel_rfl) (by kernel_rfl) (by kernel_rfl) (by kernel_rfl) (fun _ _ _ h => h) (Or.inl ⟨by rfl, fun V hV => ?_⟩) hHeld ?_
    · have k3 : V.cell? ⟨G + 1, 3, none⟩ = some (.int .i64 y) := by simp [World.cell?, hV.2]
      go_simp
    simp only [Act.put, List.setIfInBounds_toArray, List.getElem_toArray, List.getElem_cons_zero, List.getElem_cons_succ, List.set_cons_zero, List.set_cons_succ]
    have X4 : W2.drew.heap[G]? = some (.cells #[.string ⟨#[]⟩, .slice none 0 0, .slice none 0 0, .slice none 0 0] 26 (0, 0)) := XX.out
    refine wpAnyJ_one (i := 11) (by kernel_rfl) rfl (fun K hK => ?_)
    rw [if_pos (by rfl)]
    refine wp_store_row 26 (.tmp 2) (.tmp 25) rfl G #[.string m.nm, .slice x1 m.cs.length c1, .slice x2 m.fs.length c2, .slice x3 m.js.length c3] rfl rfl 26 _ X4 (show (Tryz.prog.info? 26).map (·.size) = some 4 by kernel_rfl) rfl (by kernel_rfl) ?_
    refine hK.out _ _ (fun _ => ⟨(setRow_other _ _ _ _ (by have := HL.out; omega)).trans YX.out, (setRow_other _ _ _ _ (by omega)).trans RX.out⟩) ?_
    clear hK K
    simp only [Act.put, List.setIfInBounds_toArray, List.getElem_toArray, List.getElem_cons_zero, List.getElem_cons_succ, List.set_cons_zero, List.set_cons_succ]
    refine wpAnyJ_one (i := 12) (by kernel_rfl) rfl (fun K hK => ?_)
    go_simp
    refine hK.out _ _ (fun _ => ⟨(setRow_other _ _ _ _ (by have := HL.out; omega)).trans YX.out, (setRow_other _ _ _ _ (by omega)).trans RX.out⟩) ?_
    clear hK K
    refine wpAnyJ_one (i := 13) (by kernel_rfl) rfl (fun K hK => ?_)
    go_simp
    refine hK.out _ _ (fun h => nomatch (show true = false from h)) ?_
    clear hK K
    refine wpAnyJ_done (by kernel_rfl) ?_ _
    have hz := setRow_heap W2.drew G _ (#[.string m.nm, .slice x1 m.cs.length c1, .slice x2 m.fs.length c2, .slice x3 m.js.length c3]) _ _ X4
    have BZ : Hid (Below w.heap.size w (W2.drew.setRow G #[.string m.nm, .slice x1 m.cs.length c1, .slice x2 m.fs.length c2, .slice x3 m.js.length c3])) := row_below_d BB.out.drew (by have := HG.out; omega) _
    have QZ : Hid (ImQ (Fresh (G + 2) H) (W2.drew.setRow G #[.string m.nm, .slice x1 m.cs.length c1, .slice x2 m.fs.length c2, .slice x3 m.js.length c3]) m x1 x2 x3) := QQ.out.fr (fun q hq => World.cell?_of_block (setRow_other _ _ _ _ (by have := hq.1; omega)))
    have SZ : Hid (H ≤ (W2.drew.setRow G #[.string m.nm, .slice x1 m.cs.length c1, .slice x2 m.fs.length c2, .slice x3 m.js.length c3]).heap.size) := by have := blk_in' YX.out; show _ ≤ _; simpa [World.setRow] using Nat.le_of_lt this
    generalize W2.drew.setRow G #[.string m.nm, .slice x1 m.cs.length c1, .slice x2 m.fs.length c2, .slice x3 m.js.length c3] = W5 at hz BZ QZ SZ ⊢
    clear hHeld X4
    go_step
    go_wp2
    refine bodyPost_ret (v := .tuple #[.agg #[.string m.nm, .slice x1 m.cs.length c1, .slice x2 m.fs.length c2, .slice x3 m.js.length c3], .int .i64 a, .int .i64 y]) (results_cell_row_2 Tryz.results17 _ _ G _ _ (0, 0) _ (by first | rfl | simp [Act.put]) hz Tryz.underlying26 rfl (show (Tryz.prog.info? 26).map (·.size) = some 4 by kernel_rfl)) rfl ?_
    obtain ⟨ua, uy⟩ := UV.out
    first | exact ⟨⟨x1, c1, x2, c2, x3, ⟨c3, by rw [ua, uy]⟩, QZ.out.sub (up_sub' (by have := HG.out; omega) SZ.out)⟩, BZ.out⟩ | exact ⟨⟨x1, c1, x2, c2, x3, c3, by rw [ua, uy], QZ.out.sub (up_sub' (by have := HG.out; omega) SZ.out)⟩, BZ.out⟩
end Go.Proofs.YtkickdmomompjaaGreat
namespace Go.Proofs.YtkickdmomompjaaGreat
set_option linter.unusedVariables false
set_option linter.unusedSimpArgs false
open Go.RowKit
/-- At p stands x. -/
def Sat (bs : List Nat) (p : Nat) (x : List Nat) : Prop := ∀ (j : Nat) v, x[j]? = some v → bs[p + j]? = some v
theorem Sat.nil {bs : List Nat} {p : Nat} : Sat bs p [] := fun j v h => by simp at h
theorem Sat.app {bs : List Nat} {p : Nat} {x y : List Nat} (h : Sat bs p x) (k : Sat bs (p + x.length) y) : Sat bs p (x ++ y) := fun j v hj => by
  by_cases q : j < x.length
  · rw [List.getElem?_append_left q] at hj; exact h j v hj
  · rw [List.getElem?_append_right (by omega)] at hj
    have := k _ v hj
    rw [show p + x.length + (j - x.length) = p + j by omega] at this
    exact this
theorem Sat.left {bs : List Nat} {p : Nat} {x y : List Nat} (h : Sat bs p (x ++ y)) : Sat bs p x := fun j v hj => h j v (by rw [List.getElem?_append_left (List.getElem?_eq_some_iff.1 hj).1]; exact hj)
theorem Sat.right {bs : List Nat} {p : Nat} {x y : List Nat} (h : Sat bs p (x ++ y)) : Sat bs (p + x.length) y := fun j v hj => by
  have := h (x.length + j) v (by rw [List.getElem?_append_right (by omega), Nat.add_sub_cancel_left]; exact hj)
  rw [Nat.add_assoc]; exact this
theorem Sat.le {bs : List Nat} {p : Nat} {x : List Nat} (h : Sat bs p x) (h0 : 0 < x.length) : p + x.length ≤ bs.length := by
  have := h (x.length - 1) _ (List.getElem?_eq_getElem (by omega))
  have := (List.getElem?_eq_some_iff.1 this).1
  omega
theorem Sat.take {bs : List Nat} {p : Nat} {x : List Nat} (h : Sat bs p x) : (bs.drop p).take x.length = x := by
  apply List.ext_getElem?
  intro j
  rw [List.getElem?_take]
  by_cases q : j < x.length
  · rw [if_pos q, List.getElem?_drop, List.getElem?_eq_getElem q]
    exact h j _ (List.getElem?_eq_getElem q)
  · rw [if_neg q, List.getElem?_eq_none (by omega)]
theorem sat_take (bs : List Nat) (p n : Nat) : Sat bs p ((bs.drop p).take n) := fun j v hj => drop_get bs p n hj
/-- A reader reads just what is written so. -/
structure Rw {α : Type} (bs : List Nat) (rd : RS → α × RS) (enc : α → List Nat) (Ok : α → Prop) : Prop where
  A : ∀ s, (rd s).2.y = 0 → s.y = 0 ∧ Ok (rd s).1 ∧ Sat bs s.p (enc (rd s).1) ∧ (rd s).2 = ⟨s.p + (enc (rd s).1).length, s.a, 0⟩
  B : ∀ s v, s.y = 0 → Ok v → Sat bs s.p (enc v) → rd s = (v, ⟨s.p + (enc v).length, s.a, 0⟩)
def seqR {α β : Type} (r1 : RS → α × RS) (r2 : RS → β × RS) (s : RS) : (α × β) × RS := (((r1 s).1, (r2 (r1 s).2).1), (r2 (r1 s).2).2)
def mapR {α β : Type} (f : α → β) (r : RS → α × RS) (s : RS) : β × RS := (f (r s).1, (r s).2)
theorem Rw.seq {α β : Type} {bs : List Nat} {r1 : RS → α × RS} {r2 : RS → β × RS} {e1 : α → List Nat} {e2 : β → List Nat} {O1 : α → Prop} {O2 : β → Prop} (h1 : Rw bs r1 e1 O1) (h2 : Rw bs r2 e2 O2) :
    Rw bs (seqR r1 r2) (fun v => e1 v.1 ++ e2 v.2) (fun v => O1 v.1 ∧ O2 v.2) := by
  refine ⟨fun s h => ?_, fun s v hy ho hs => ?_⟩
  · obtain ⟨a1, a2, a3, a4⟩ := h2.A (r1 s).2 h
    obtain ⟨b1, b2, b3, b4⟩ := h1.A s a1
    refine ⟨b1, ⟨b2, a2⟩, ?_, ?_⟩
    · refine b3.app ?_
      rw [b4] at a3
      have q : (r1 s).2 = ⟨s.p + (e1 (r1 s).1).length, s.a, 0⟩ := b4
      show Sat bs (s.p + (e1 (r1 s).1).length) (e2 (r2 (r1 s).2).1)
      rw [← q] at a3
      rw [show s.p + (e1 (r1 s).1).length = (r1 s).2.p by rw [q]]
      exact a3
    · show (r2 (r1 s).2).2 = ⟨s.p + (e1 (r1 s).1 ++ e2 (r2 (r1 s).2).1).length, s.a, 0⟩
      rw [a4]
      have q : (r1 s).2 = ⟨s.p + (e1 (r1 s).1).length, s.a, 0⟩ := b4
      rw [show (r1 s).2.p = s.p + (e1 (r1 s).1).length by rw [q], show (r1 s).2.a = s.a by rw [q], List.length_append, Nat.add_assoc]
  · have b := h1.B s v.1 hy ho.1 hs.left
    have a := h2.B ⟨s.p + (e1 v.1).length, s.a, 0⟩ v.2 rfl ho.2 hs.right
    show (((r1 s).1, (r2 (r1 s).2).1), (r2 (r1 s).2).2) = _
    rw [b]
    show ((v.1, (r2 ⟨s.p + (e1 v.1).length, s.a, 0⟩).1), (r2 ⟨s.p + (e1 v.1).length, s.a, 0⟩).2) = _
    rw [a]
    show ((v.1, v.2), (⟨s.p + (e1 v.1).length + (e2 v.2).length, s.a, 0⟩ : RS)) = (v, ⟨s.p + (e1 v.1 ++ e2 v.2).length, s.a, 0⟩)
    rw [List.length_append, Nat.add_assoc]
theorem Rw.map {α β : Type} {bs : List Nat} {r : RS → α × RS} {e : α → List Nat} {O : α → Prop} (h : Rw bs r e O) (f : α → β) (g : β → α) (e' : β → List Nat) (O' : β → Prop)
    (fg : ∀ b, O' b → f (g b) = b ∧ O (g b) ∧ e (g b) = e' b) (gf : ∀ a, O a → O' (f a) ∧ e' (f a) = e a) : Rw bs (mapR f r) e' O' := by
  refine ⟨fun s hs => ?_, fun s v hy ho hv => ?_⟩
  · obtain ⟨a1, a2, a3, a4⟩ := h.A s hs
    obtain ⟨g1, g2⟩ := gf _ a2
    refine ⟨a1, g1, ?_, ?_⟩
    · show Sat bs s.p (e' (f (r s).1))
      rw [g2]; exact a3
    · show (r s).2 = ⟨s.p + (e' (f (r s).1)).length, s.a, 0⟩
      rw [g2]; exact a4
  · obtain ⟨f1, f2, f3⟩ := fg v ho
    have b := h.B s (g v) hy f2 (by rw [f3]; exact hv)
    show (f (r s).1, (r s).2) = _
    rw [b, ← f3]
    show (f (g v), _) = _
    rw [f1]
/-- A number of eight bytes. -/
def I64 (n : Int) : Prop := -9223372036854775808 ≤ n ∧ n ≤ 9223372036854775807
theorem le8 (b0 b1 b2 b3 b4 b5 b6 b7 : Nat) : leN [b0, b1, b2, b3, b4, b5, b6, b7] = b0 + 256 * (b1 + 256 * (b2 + 256 * (b3 + 256 * (b4 + 256 * (b5 + 256 * (b6 + 256 * b7)))))) := by simp [leN]
theorem nb8 (n : Int) : nbN n = [(n % 256).toNat, (n / 256 % 256).toNat, (n / 65536 % 256).toNat, (n / 16777216 % 256).toNat, (n / 4294967296 % 256).toNat, (n / 1099511627776 % 256).toNat, (n / 281474976710656 % 256).toNat, (n / 72057594037927936 % 256).toNat] := by
  unfold nbN nbK
  simp [List.range_succ]
theorem len8 {t : List Nat} (h : t.length = 8) : ∃ b0 b1 b2 b3 b4 b5 b6 b7, t = [b0, b1, b2, b3, b4, b5, b6, b7] := by
  match t, h with
  | [b0, b1, b2, b3, b4, b5, b6, b7], _ => exact ⟨_, _, _, _, _, _, _, _, rfl⟩
theorem nb_le {t : List Nat} (h : t.length = 8) (h8 : ∀ b ∈ t, b < 256) : nbN (wrap64 (leN t : Int)) = t := by
  obtain ⟨b0, b1, b2, b3, b4, b5, b6, b7, rfl⟩ := len8 h
  have c0 := h8 b0 (by simp)
  have c1 := h8 b1 (by simp)
  have c2 := h8 b2 (by simp)
  have c3 := h8 b3 (by simp)
  have c4 := h8 b4 (by simp)
  have c5 := h8 b5 (by simp)
  have c6 := h8 b6 (by simp)
  have c7 := h8 b7 (by simp)
  clear h h8
  rw [le8, nb8]
  obtain ⟨w, hw, q⟩ : ∃ w : Int, w = wrap64 (((b0 + 256 * (b1 + 256 * (b2 + 256 * (b3 + 256 * (b4 + 256 * (b5 + 256 * (b6 + 256 * b7)))))) : Nat)) : Int) ∧ ∃ k : Int, w = b0 + 256 * (b1 + 256 * (b2 + 256 * (b3 + 256 * (b4 + 256 * (b5 + 256 * (b6 + 256 * (b7 - 256 * k))))))) := by
    refine ⟨_, rfl, ?_⟩
    by_cases h : b7 < 128
    · exact ⟨0, by unfold wrap64; omega⟩
    · exact ⟨1, by unfold wrap64; omega⟩
  obtain ⟨k, q⟩ := q
  rw [← hw]
  clear hw
  congr 1
  · omega
  congr 1
  · omega
  congr 1
  · omega
  congr 1
  · omega
  congr 1
  · omega
  congr 1
  · omega
  congr 1
  · omega
  congr 1
  omega
theorem le_sum (n : Int) : (leN (nbN n) : Int) = n % 18446744073709551616 := by
  rw [nb8, le8]
  have e2 : n / 65536 = n / 256 / 256 := by omega
  have e3 : n / 16777216 = n / 256 / 256 / 256 := by omega
  have e4 : n / 4294967296 = n / 256 / 256 / 256 / 256 := by omega
  have e5 : n / 1099511627776 = n / 256 / 256 / 256 / 256 / 256 := by omega
  have e6 : n / 281474976710656 = n / 256 / 256 / 256 / 256 / 256 / 256 := by omega
  have e7 : n / 72057594037927936 = n / 256 / 256 / 256 / 256 / 256 / 256 / 256 := by omega
  have e8 : n / 18446744073709551616 = n / 256 / 256 / 256 / 256 / 256 / 256 / 256 / 256 := by omega
  rw [e2, e3, e4, e5, e6, e7]
  have em := Int.emod_add_mul_ediv n 18446744073709551616
  rw [e8] at em
  generalize h1 : n / 256 = q1 at *
  generalize h2 : q1 / 256 = q2 at *
  generalize h3 : q2 / 256 = q3 at *
  generalize h4 : q3 / 256 = q4 at *
  generalize h5 : q4 / 256 = q5 at *
  generalize h6 : q5 / 256 = q6 at *
  generalize h7 : q6 / 256 = q7 at *
  generalize h8 : q7 / 256 = q8 at *
  generalize n % 18446744073709551616 = m at *
  clear e2 e3 e4 e5 e6 e7 e8
  have g0 : ((n % 256).toNat : Int) = n - 256 * q1 := by omega
  have g1 : ((q1 % 256).toNat : Int) = q1 - 256 * q2 := by omega
  have g2 : ((q2 % 256).toNat : Int) = q2 - 256 * q3 := by omega
  have g3 : ((q3 % 256).toNat : Int) = q3 - 256 * q4 := by omega
  have g4 : ((q4 % 256).toNat : Int) = q4 - 256 * q5 := by omega
  have g5 : ((q5 % 256).toNat : Int) = q5 - 256 * q6 := by omega
  have g6 : ((q6 % 256).toNat : Int) = q6 - 256 * q7 := by omega
  have g7 : ((q7 % 256).toNat : Int) = q7 - 256 * q8 := by omega
  generalize (n % 256).toNat = b0 at *
  generalize (q1 % 256).toNat = b1 at *
  generalize (q2 % 256).toNat = b2 at *
  generalize (q3 % 256).toNat = b3 at *
  generalize (q4 % 256).toNat = b4 at *
  generalize (q5 % 256).toNat = b5 at *
  generalize (q6 % 256).toNat = b6 at *
  generalize (q7 % 256).toNat = b7 at *
  clear h1 h2 h3 h4 h5 h6 h7 h8
  omega
theorem le_nb {n : Int} (h : I64 n) : wrap64 (leN (nbN n) : Int) = n := by
  obtain ⟨h1, h2⟩ := h
  rw [le_sum]
  unfold wrap64
  omega
theorem nb_lt (n : Int) : ∀ b ∈ nbN n, b < 256 := by
  intro b hb
  rw [nb8] at hb
  simp only [List.mem_cons, List.not_mem_nil, or_false] at hb
  rcases hb with rfl | rfl | rfl | rfl | rfl | rfl | rfl | rfl <;> omega
end Go.Proofs.YtkickdmomompjaaGreat
namespace Go.Proofs.YtkickdmomompjaaGreat
set_option linter.unusedVariables false
set_option linter.unusedSimpArgs false
open Go.RowKit
theorem u64_wrap (n : Int) : IntKind.u64.wrap n = n % 18446744073709551616 := by simp [IntKind.wrap, IntKind.signed, IntKind.bits]
section
variable {bs : List Nat} (h8 : ∀ v ∈ bs, v < 256) (hn : bs.length ≤ 4194304)
include h8
theorem rwB : Rw bs (rdB bs) (fun b => [b]) (fun b => b < 256) := by
  refine ⟨fun s h => ?_, fun s v hy ho hv => ?_⟩
  · by_cases q : s.y = 0 ∧ s.p < bs.length
    · have e : rdB bs s = (bs.getD s.p 0, ⟨s.p + 1, s.a, 0⟩) := by unfold rdB; rw [if_pos q]
      have g : bs[s.p]? = some (bs.getD s.p 0) := by rw [List.getD_eq_getElem?_getD, List.getElem?_eq_getElem q.2]; rfl
      rw [e]
      refine ⟨q.1, h8 _ (List.mem_of_getElem? g), fun j v hj => ?_, rfl⟩
      match j, hj with
      | 0, hj => cases hj; exact g
    · have e : rdB bs s = (0, s.no bs.length) := by unfold rdB; rw [if_neg q]
      rw [e] at h
      exact absurd h (RS.no_y _ _)
  · have g := hv 0 v rfl
    have hl := (List.getElem?_eq_some_iff.1 g).1
    unfold rdB
    rw [if_pos ⟨hy, hl⟩, List.getD_eq_getElem?_getD]
    rw [Nat.add_zero] at g
    rw [g]
    rfl
theorem rwN : Rw bs (rdN bs) nbN I64 := by
  refine ⟨fun s h => ?_, fun s v hy ho hv => ?_⟩
  · by_cases q : s.y = 0 ∧ s.p + 8 ≤ bs.length
    · have e : rdN bs s = (wrap64 (leN ((bs.drop s.p).take 8) : Int), ⟨s.p + 8, s.a, 0⟩) := by unfold rdN; rw [if_pos q]
      have l8 : ((bs.drop s.p).take 8).length = 8 := by rw [List.length_take, List.length_drop]; omega
      have r8 := nb_le l8 (fun b hb => h8 b (List.mem_of_mem_drop (List.mem_of_mem_take hb)))
      rw [e]
      refine ⟨q.1, ?_, ?_, ?_⟩
      · show I64 (wrap64 _)
        unfold I64 wrap64
        omega
      · show Sat bs s.p (nbN _)
        rw [r8]
        exact sat_take _ _ _
      · show _ = (⟨s.p + (nbN _).length, s.a, 0⟩ : RS)
        rw [nbN_len]
    · have e : rdN bs s = (0, s.no bs.length) := by unfold rdN; rw [if_neg q]
      rw [e] at h
      exact absurd h (RS.no_y _ _)
  · have hl := hv.le (by rw [nbN_len]; omega)
    have ht := hv.take
    rw [nbN_len] at hl ht
    unfold rdN
    rw [if_pos ⟨hy, hl⟩, ht, le_nb ho, nbN_len]
theorem rwF : Rw bs (rdF bs) (fun b => [bbN b]) (fun _ => True) := by
  refine ⟨fun s h => ?_, fun s v hy ho hv => ?_⟩
  · change (rdF bs s).2.y = 0 at h
    unfold rdF at h
    dsimp only at h
    by_cases q : 1 < (rdB bs s).1
    · rw [if_pos q] at h; exact absurd h (show ¬ (203 : Int) = 0 by decide)
    · rw [if_neg q] at h
      obtain ⟨a1, a2, a3, a4⟩ := (rwB h8).A s h
      have e : rdF bs s = ((rdB bs s).1 == 1, (rdB bs s).2) := by unfold rdF; rw [if_neg q]
      rw [e]
      have eb : bbN ((rdB bs s).1 == 1) = (rdB bs s).1 := by
        unfold bbN
        rcases (show (rdB bs s).1 = 0 ∨ (rdB bs s).1 = 1 by omega) with z | z <;> rw [z] <;> rfl
      exact ⟨a1, trivial, by show Sat bs s.p [bbN ((rdB bs s).1 == 1)]; rw [eb]; exact a3, a4⟩
  · have b := (rwB h8).B s (bbN v) hy (by cases v <;> decide) hv
    unfold rdF
    rw [b]
    have q : ¬ 1 < bbN v := by cases v <;> decide
    show ((bbN v == 1), if 1 < bbN v then _ else _) = _
    rw [if_neg q]
    cases v <;> rfl
/-- A count that may be. -/
theorem rdC_A (s : RS) (h : (rdC bs s).2.y = 0) : s.y = 0 ∧ 0 ≤ (rdC bs s).1 ∧ (rdC bs s).1 ≤ (bs.length : Int) - (s.p + 8) ∧ Sat bs s.p (nbN (rdC bs s).1) ∧ (rdC bs s).2 = ⟨s.p + 8, s.a, 0⟩ := by
  unfold rdC at h
  dsimp only at h
  by_cases q0 : (rdN bs s).2.y = 0
  · obtain ⟨a1, a2, a3, a4⟩ := (rwN h8).A s q0
    rw [nbN_len] at a4
    rw [if_pos q0] at h
    by_cases q1 : (rdN bs s).1 < 0
    · rw [if_pos q1] at h; exact absurd h (show ¬ (4 : Int) = 0 by decide)
    · rw [if_neg q1] at h
      by_cases q2 : (bs.length : Int) - (s.p + 8) < (rdN bs s).1
      · rw [if_pos q2] at h; exact absurd h (show ¬ (2 : Int) = 0 by decide)
      · have e : rdC bs s = ((rdN bs s).1, (rdN bs s).2) := by unfold rdC; rw [if_pos q0, if_neg q1, if_neg q2]
        rw [e]
        exact ⟨a1, by show 0 ≤ (rdN bs s).1; omega, by show (rdN bs s).1 ≤ _; omega, a3, a4⟩
  · rw [if_neg q0] at h
    exact absurd h q0
theorem rdC_B (s : RS) (n : Int) (hy : s.y = 0) (h0 : 0 ≤ n) (h1 : n ≤ (bs.length : Int) - (s.p + 8)) (h2 : n ≤ 4194304) (hv : Sat bs s.p (nbN n)) : rdC bs s = (n, ⟨s.p + 8, s.a, 0⟩) := by
  have b := (rwN h8).B s n hy ⟨by omega, by omega⟩ hv
  rw [nbN_len] at b
  unfold rdC
  rw [b]
  show (n, if (0 : Int) = 0 then (if n < 0 then _ else if (bs.length : Int) - (s.p + 8) < n then _ else _) else _) = _
  rw [if_pos rfl, if_neg (by omega), if_neg (by omega)]
omit h8 in
theorem sb_str {t : List Nat} (h : ∀ v ∈ t, v < 256) : sbN (strOfNums (t.map Int.ofNat)) = t := by
  unfold sbN
  rw [strOfNums_data, List.map_map, List.map_map]
  conv => rhs; rw [← List.map_id t]
  exact List.map_congr_left (fun v hv => by simp [UInt8.toNat_ofNat', Nat.mod_eq_of_lt (h v hv)])
omit h8 in
theorem str_sb (s : ByteArray) : strOfNums ((sbN s).map Int.ofNat) = s := by
  unfold sbN strOfNums
  rw [List.map_map, List.map_map]
  apply ByteArray.ext
  apply Array.ext'
  show ((s.data.toList.map _).toArray).toList = _
  rw [List.toList_toArray]
  conv => rhs; rw [← List.map_id s.data.toList]
  exact List.map_congr_left (fun v _ => by simp)
include hn
theorem rwT : Rw bs (rdT bs) tbN (fun _ => True) := by
  refine ⟨fun s h => ?_, fun s v hy ho hv => ?_⟩
  · change (rdT bs s).2.y = 0 at h
    by_cases q : (rdC bs s).2.y = 0
    · obtain ⟨a1, a2, a3, a4, a5⟩ := rdC_A h8 s q
      have e : rdT bs s = (strOfNums (((bs.drop (s.p + 8)).take (rdC bs s).1.toNat).map Int.ofNat), ⟨s.p + 8 + (rdC bs s).1.toNat, s.a, 0⟩) := by unfold rdT; rw [if_pos q, a5]
      obtain ⟨n, en⟩ : ∃ n, (rdC bs s).1 = n := ⟨_, rfl⟩
      rw [en] at a2 a3 a4 e
      obtain ⟨k, rfl⟩ := Int.eq_ofNat_of_zero_le a2
      rw [Int.toNat_natCast] at e
      have lt : ((bs.drop (s.p + 8)).take k).length = k := by rw [List.length_take, List.length_drop]; omega
      have l8 : ∀ v ∈ (bs.drop (s.p + 8)).take k, v < 256 := fun b hb => h8 b (List.mem_of_mem_drop (List.mem_of_mem_take hb))
      have sz : (strOfNums (((bs.drop (s.p + 8)).take k).map Int.ofNat)).size = k := by rw [strOfNums_size, List.length_map, lt]
      rw [e]
      refine ⟨a1, trivial, ?_, ?_⟩
      · show Sat bs s.p (tbN _)
        unfold tbN
        rw [sz, sb_str l8]
        refine a4.app ?_
        rw [nbN_len]
        exact sat_take _ _ _
      · show _ = (⟨s.p + (tbN _).length, s.a, 0⟩ : RS)
        rw [tbN_len, sz, ← Nat.add_assoc]
    · have e : rdT bs s = (ByteArray.empty, (rdC bs s).2) := by unfold rdT; rw [if_neg q]
      rw [e] at h
      exact absurd h q
  · have hl := hv.le (by rw [tbN_len]; omega)
    rw [tbN_len] at hl
    have h1 : Sat bs s.p (nbN (v.size : Int)) := hv.left
    have h2 : Sat bs (s.p + 8) (sbN v) := by have := hv.right; rw [nbN_len] at this; exact this
    have c := rdC_B h8 s (v.size : Int) hy (by omega) (by omega) (by omega) h1
    have t2 := h2.take
    rw [sbN_len] at t2
    unfold rdT
    rw [c]
    show (if (0 : Int) = 0 then _ else _) = _
    rw [if_pos rfl]
    show (strOfNums (((bs.drop (s.p + 8)).take (v.size : Int).toNat).map Int.ofNat), (⟨s.p + 8 + (v.size : Int).toNat, s.a, 0⟩ : RS)) = _
    rw [Int.toNat_natCast, t2, str_sb, tbN_len, ← Nat.add_assoc]
/-- A value's three parts. -/
def OkV (v : Nat × Int × ByteArray) : Prop := v.1 < 256 ∧ 0 ≤ v.2.1 ∧ v.2.1 < 18446744073709551616
theorem rwV : Rw bs (rdV bs) (fun v => vbN v.1 v.2.1 v.2.2) OkV := by
  have q := ((rwB h8).seq ((rwN h8).seq (rwT h8 hn))).map (fun v => (v.1, IntKind.u64.wrap v.2.1, v.2.2)) (fun v => (v.1, wrap64 v.2.1, v.2.2)) (fun v => vbN v.1 v.2.1 v.2.2) OkV
    (fun b hb => by
      obtain ⟨k, n, t⟩ := b
      obtain ⟨h1, h2, h3⟩ := hb
      dsimp only at h1 h2 h3
      refine ⟨?_, ⟨h1, ?_, trivial⟩, ?_⟩
      · show (k, IntKind.u64.wrap (wrap64 n), t) = _
        have : IntKind.u64.wrap (wrap64 n) = n := by rw [u64_wrap]; unfold wrap64; omega
        rw [this]
      · show I64 (wrap64 n); unfold I64 wrap64; omega
      · show [k] ++ (nbN (wrap64 n) ++ tbN t) = vbN k n t
        unfold vbN
        rw [List.append_assoc, show ((k : Int) % 256).toNat = k by omega])
    (fun a ha => by
      obtain ⟨k, n, t⟩ := a
      obtain ⟨h1, h2, _⟩ := ha
      dsimp only at h1 h2
      have e : wrap64 (IntKind.u64.wrap n) = n := by obtain ⟨i1, i2⟩ := h2; rw [u64_wrap]; unfold wrap64; omega
      refine ⟨⟨h1, ?_, ?_⟩, ?_⟩
      · show 0 ≤ IntKind.u64.wrap n; rw [u64_wrap]; omega
      · show IntKind.u64.wrap n < _; rw [u64_wrap]; omega
      · show vbN k (IntKind.u64.wrap n) t = [k] ++ (nbN n ++ tbN t)
        unfold vbN
        rw [e, List.append_assoc, show ((k : Int) % 256).toNat = k by omega])
  exact q
omit h8 hn in
theorem rdKS_y {α : Type} (rd : RS → α × RS) (k : Nat) {s : RS} (h : (rdKS rd k s).y = 0) : s.y = 0 := by
  by_cases q : s.y = 0
  · exact q
  · rw [rdKS_bad rd k q] at h; exact h
omit h8 hn in
theorem rwK_A {α : Type} {rd : RS → α × RS} {e : α → List Nat} {O : α → Prop} (h : Rw bs rd e O) : ∀ (k : Nat) (s : RS), (rdKS rd k s).y = 0 → (rdKL rd k s).length = k ∧ (∀ v ∈ rdKL rd k s, O v) ∧ Sat bs s.p ((rdKL rd k s).flatMap e) ∧ (s.y = 0 → rdKS rd k s = ⟨s.p + ((rdKL rd k s).flatMap e).length, s.a, 0⟩)
  | 0, s, hs => ⟨rfl, fun v hv => (by cases hv), Sat.nil, fun hy => (by cases s; dsimp only at hy; subst hy; rfl)⟩
  | k + 1, s, hs => by
    have hy := rdKS_y rd (k + 1) hs
    have e1 : rdKL rd (k + 1) s = (rd s).1 :: rdKL rd k (rd s).2 := by show (if s.y = 0 then _ else _) = _; rw [if_pos hy]
    have e2 : rdKS rd (k + 1) s = rdKS rd k (rd s).2 := by show (if s.y = 0 then _ else _) = _; rw [if_pos hy]
    rw [e2] at hs
    obtain ⟨a1, a2, a3, a4⟩ := h.A s (rdKS_y rd k hs)
    obtain ⟨b1, b2, b3, b4⟩ := rwK_A h k (rd s).2 hs
    rw [e1, e2]
    refine ⟨by rw [List.length_cons, b1], fun v hv => ?_, ?_, fun _ => ?_⟩
    · rcases List.mem_cons.1 hv with rfl | hv
      · exact a2
      · exact b2 v hv
    · rw [List.flatMap_cons]
      refine a3.app ?_
      rw [show s.p + (e (rd s).1).length = (rd s).2.p by rw [a4]]
      exact b3
    · rw [b4 (by rw [a4]), List.flatMap_cons, List.length_append]
      rw [show (rd s).2.p = s.p + (e (rd s).1).length by rw [a4], show (rd s).2.a = s.a by rw [a4], Nat.add_assoc]
omit h8 hn in
theorem rwK_B {α : Type} {rd : RS → α × RS} {e : α → List Nat} {O : α → Prop} (h : Rw bs rd e O) : ∀ (l : List α) (s : RS), s.y = 0 → (∀ v ∈ l, O v) → Sat bs s.p (l.flatMap e) → rdKL rd l.length s = l ∧ rdKS rd l.length s = ⟨s.p + (l.flatMap e).length, s.a, 0⟩
  | [], s, hy, _, _ => ⟨rfl, (by cases s; dsimp only at hy; subst hy; rfl)⟩
  | a :: l, s, hy, ho, hv => by
    rw [List.flatMap_cons] at hv
    have b := h.B s a hy (ho a (List.mem_cons_self)) hv.left
    obtain ⟨c1, c2⟩ := rwK_B h l ⟨s.p + (e a).length, s.a, 0⟩ rfl (fun v hv => ho v (List.mem_cons_of_mem _ hv)) hv.right
    have e1 : rdKL rd (l.length + 1) s = (rd s).1 :: rdKL rd l.length (rd s).2 := by show (if s.y = 0 then _ else _) = _; rw [if_pos hy]
    have e2 : rdKS rd (l.length + 1) s = rdKS rd l.length (rd s).2 := by show (if s.y = 0 then _ else _) = _; rw [if_pos hy]
    rw [List.length_cons, e1, e2, b]
    refine ⟨by show a :: rdKL rd l.length ⟨s.p + (e a).length, s.a, 0⟩ = _; rw [c1], ?_⟩
    show rdKS rd l.length ⟨s.p + (e a).length, s.a, 0⟩ = _
    rw [c2, List.flatMap_cons, List.length_append, Nat.add_assoc]
omit h8 hn in
theorem flat_ge {α : Type} {e : α → List Nat} (hp : ∀ v, 1 ≤ (e v).length) : ∀ l : List α, l.length ≤ (l.flatMap e).length
  | [] => Nat.le_refl _
  | a :: l => by rw [List.flatMap_cons, List.length_append, List.length_cons]; have := hp a; have := flat_ge hp l; omega
theorem rwL {α : Type} {rd : RS → α × RS} {e : α → List Nat} {O : α → Prop} (h : Rw bs rd e O) (hp : ∀ v, 1 ≤ (e v).length) : Rw bs (rdL rd bs) (lsN e) (fun l => ∀ v ∈ l, O v) := by
  refine ⟨fun s hs => ?_, fun s l hy ho hv => ?_⟩
  · change (rdKS rd (rdC bs s).1.toNat (rdC bs s).2).y = 0 at hs
    obtain ⟨a1, a2, a3, a4, a5⟩ := rdC_A h8 s (rdKS_y rd _ hs)
    obtain ⟨b1, b2, b3, b4⟩ := rwK_A h _ _ hs
    have b4 := b4 (by rw [a5])
    have en : ((rdL rd bs s).1.length : Int) = (rdC bs s).1 := by show ((rdKL rd (rdC bs s).1.toNat (rdC bs s).2).length : Int) = _; rw [b1]; omega
    refine ⟨a1, b2, ?_, ?_⟩
    · unfold lsN
      rw [en]
      refine a4.app ?_
      rw [nbN_len, show s.p + 8 = (rdC bs s).2.p by rw [a5]]
      exact b3
    · show rdKS rd (rdC bs s).1.toNat (rdC bs s).2 = _
      rw [b4]
      unfold lsN
      rw [en, List.length_append, nbN_len, ← Nat.add_assoc]
      show (⟨(rdC bs s).2.p + _, (rdC bs s).2.a, 0⟩ : RS) = _
      rw [show (rdC bs s).2.p = s.p + 8 by rw [a5], show (rdC bs s).2.a = s.a by rw [a5]]
      rfl
  · have hl := hv.le (by unfold lsN; rw [List.length_append, nbN_len]; omega)
    have fl := flat_ge hp l
    unfold lsN at hl
    rw [List.length_append, nbN_len] at hl
    have c := rdC_B h8 s (l.length : Int) hy (by omega) (by omega) (by omega) hv.left
    have h2 : Sat bs (s.p + 8) (l.flatMap e) := by have := hv.right; rw [nbN_len] at this; exact this
    obtain ⟨d1, d2⟩ := rwK_B h l ⟨s.p + 8, s.a, 0⟩ rfl ho h2
    show (rdKL rd (rdC bs s).1.toNat (rdC bs s).2, rdKS rd (rdC bs s).1.toNat (rdC bs s).2) = _
    rw [c]
    show (rdKL rd (l.length : Int).toNat ⟨s.p + 8, s.a, 0⟩, rdKS rd (l.length : Int).toNat ⟨s.p + 8, s.a, 0⟩) = _
    rw [Int.toNat_natCast, d1, d2]
    unfold lsN
    rw [List.length_append, nbN_len, ← Nat.add_assoc]
end
end Go.Proofs.YtkickdmomompjaaGreat
namespace Go.Proofs.YtkickdmomompjaaGreat
set_option linter.unusedVariables false
set_option linter.unusedSimpArgs false
open Go.RowKit
def U8 (k : Int) : Prop := 0 ≤ k ∧ k < 256
def U64 (k : Int) : Prop := 0 ≤ k ∧ k < 18446744073709551616
def GLp (l : LpR) : Prop := I64 l.hd ∧ I64 l.en ∧ I64 l.tm
def GOp (o : OpR) : Prop := I64 o.cd ∧ I64 o.a ∧ I64 o.b ∧ I64 o.c ∧ I64 o.d ∧ I64 o.lo ∧ I64 o.hi ∧ U8 o.vk ∧ U64 o.vb
def GCe (c : CeR) : Prop := U8 c.kd ∧ I64 c.lo ∧ I64 c.hi ∧ I64 c.mx ∧ U8 c.ik ∧ U64 c.ib ∧ U8 c.dr
def GFl (f : FlR) : Prop := I64 f.wh ∧ I64 f.ce ∧ I64 f.ba ∧ I64 f.rg ∧ I64 f.sl ∧ (∀ o ∈ f.os, GOp o) ∧ (∀ l ∈ f.ls, GLp l)
def GJb (j : JbR) : Prop := I64 j.iv ∧ I64 j.sg ∧ I64 j.pr ∧ (∀ o ∈ j.cs, I64 o) ∧ (∀ o ∈ j.bs, I64 o) ∧ I64 j.bd
def GIm (m : ImR) : Prop := (∀ c ∈ m.cs, GCe c) ∧ (∀ f ∈ m.fs, GFl f) ∧ (∀ j ∈ m.js, GJb j)
theorem ns3 (a b c : Int) : nsN [a, b, c] = nbN a ++ (nbN b ++ nbN c) := by simp [nsN]
theorem ns5 (a b c d e : Int) : nsN [a, b, c, d, e] = nbN a ++ (nbN b ++ (nbN c ++ (nbN d ++ nbN e))) := by simp [nsN]
theorem ns7 (a b c d e f g : Int) : nsN [a, b, c, d, e, f, g] = nbN a ++ (nbN b ++ (nbN c ++ (nbN d ++ (nbN e ++ (nbN f ++ nbN g))))) := by simp [nsN]
theorem nat8 {k : Nat} : ((k : Int) % 256).toNat = k % 256 := by omega
section
variable {bs : List Nat} (h8 : ∀ v ∈ bs, v < 256) (hn : bs.length ≤ 4194304)
include h8
theorem rwLp : Rw bs (rdLp bs) lbN GLp := by
  have q := ((rwN h8).seq ((rwN h8).seq (rwN h8))).map (fun v => (⟨v.1, v.2.1, v.2.2⟩ : LpR)) (fun l : LpR => (l.hd, l.en, l.tm)) lbN GLp
    (fun l hl => ⟨rfl, hl, by show nbN l.hd ++ (nbN l.en ++ nbN l.tm) = lbN l; unfold lbN; rw [ns3]⟩)
    (fun a ha => ⟨ha, by show nsN [_, _, _] = _; rw [ns3]⟩)
  exact q
include hn
theorem rwOp : Rw bs (rdOp bs) obN GOp := by
  have q := ((rwN h8).seq ((rwN h8).seq ((rwN h8).seq ((rwN h8).seq ((rwN h8).seq ((rwN h8).seq ((rwN h8).seq (rwV h8 hn)))))))).map
    (fun v => (⟨v.1, v.2.1, v.2.2.1, v.2.2.2.1, v.2.2.2.2.1, v.2.2.2.2.2.1, v.2.2.2.2.2.2.1, v.2.2.2.2.2.2.2.1, v.2.2.2.2.2.2.2.2.1, v.2.2.2.2.2.2.2.2.2⟩ : OpR))
    (fun o : OpR => (o.cd, o.a, o.b, o.c, o.d, o.lo, o.hi, (o.vk.toNat, o.vb, o.vs))) obN GOp
    (fun o ho => by
      obtain ⟨h1, h2, h3, h4, h5, h6, h7, h8, h9⟩ := ho
      have e : ((o.vk.toNat : Nat) : Int) = o.vk := by obtain ⟨z, _⟩ := h8; omega
      refine ⟨?_, ⟨h1, h2, h3, h4, h5, h6, h7, ?_, h9.1, h9.2⟩, ?_⟩
      · show (⟨o.cd, o.a, o.b, o.c, o.d, o.lo, o.hi, ((o.vk.toNat : Nat) : Int), o.vb, o.vs⟩ : OpR) = o
        rw [e]
      · show o.vk.toNat < 256; obtain ⟨_, z⟩ := h8; omega
      · show nbN o.cd ++ (nbN o.a ++ (nbN o.b ++ (nbN o.c ++ (nbN o.d ++ (nbN o.lo ++ (nbN o.hi ++ vbN ((o.vk.toNat : Nat) : Int) o.vb o.vs)))))) = obN o
        unfold obN
        rw [e, ns7]
        simp only [List.append_assoc])
    (fun a ha => by
      obtain ⟨h1, h2, h3, h4, h5, h6, h7, h8, h9, h10⟩ := ha
      refine ⟨⟨h1, h2, h3, h4, h5, h6, h7, ⟨by show (0 : Int) ≤ (a.2.2.2.2.2.2.2.1 : Nat); omega, by show ((a.2.2.2.2.2.2.2.1 : Nat) : Int) < 256; omega⟩, ⟨h9, h10⟩⟩, ?_⟩
      show nsN [_, _, _, _, _, _, _] ++ _ = _
      rw [ns7]
      simp only [List.append_assoc])
  exact q
theorem rwCe : Rw bs (rdCe bs) cbN GCe := by
  have q := ((rwB h8).seq ((rwF h8).seq ((rwN h8).seq ((rwN h8).seq ((rwN h8).seq ((rwV h8 hn).seq ((rwF h8).seq ((rwB h8).seq (rwT h8 hn))))))))).map
    (fun v => (⟨v.1, v.2.1, v.2.2.1, v.2.2.2.1, v.2.2.2.2.1, v.2.2.2.2.2.1.1, v.2.2.2.2.2.1.2.1, v.2.2.2.2.2.1.2.2, v.2.2.2.2.2.2.1, v.2.2.2.2.2.2.2.1, v.2.2.2.2.2.2.2.2⟩ : CeR))
    (fun c : CeR => (c.kd.toNat, c.sb, c.lo, c.hi, c.mx, (c.ik.toNat, c.ib, c.is), c.kp, c.dr.toNat, c.ad)) cbN GCe
    (fun c hc => by
      obtain ⟨h1, h2, h3, h4, h5, h6, h7⟩ := hc
      have e1 : ((c.kd.toNat : Nat) : Int) = c.kd := by obtain ⟨z, _⟩ := h1; omega
      have e2 : ((c.ik.toNat : Nat) : Int) = c.ik := by obtain ⟨z, _⟩ := h5; omega
      have e3 : ((c.dr.toNat : Nat) : Int) = c.dr := by obtain ⟨z, _⟩ := h7; omega
      refine ⟨?_, ⟨?_, trivial, h2, h3, h4, ⟨?_, h6.1, h6.2⟩, trivial, ?_, trivial⟩, ?_⟩
      · show (⟨((c.kd.toNat : Nat) : Int), c.sb, c.lo, c.hi, c.mx, ((c.ik.toNat : Nat) : Int), c.ib, c.is, c.kp, ((c.dr.toNat : Nat) : Int), c.ad⟩ : CeR) = c
        rw [e1, e2, e3]
      · show c.kd.toNat < 256; obtain ⟨_, z⟩ := h1; omega
      · show c.ik.toNat < 256; obtain ⟨_, z⟩ := h5; omega
      · show c.dr.toNat < 256; obtain ⟨_, z⟩ := h7; omega
      · show [c.kd.toNat] ++ ([bbN c.sb] ++ (nbN c.lo ++ (nbN c.hi ++ (nbN c.mx ++ (vbN ((c.ik.toNat : Nat) : Int) c.ib c.is ++ ([bbN c.kp] ++ ([c.dr.toNat] ++ tbN c.ad))))))) = cbN c
        unfold cbN
        rw [e2, ns3, show (c.kd % 256).toNat = c.kd.toNat by obtain ⟨_, _⟩ := h1; omega, show (c.dr % 256).toNat = c.dr.toNat by obtain ⟨_, _⟩ := h7; omega]
        simp only [List.append_assoc])
    (fun a ha => by
      obtain ⟨h1, h2, h3, h4, h5, ⟨h6, h7, h8⟩, h9, h10, h11⟩ := ha
      refine ⟨⟨⟨by show (0 : Int) ≤ (a.1 : Nat); omega, by show ((a.1 : Nat) : Int) < 256; omega⟩, h3, h4, h5, ⟨by show (0 : Int) ≤ (a.2.2.2.2.2.1.1 : Nat); omega, by show ((a.2.2.2.2.2.1.1 : Nat) : Int) < 256; omega⟩, ⟨h7, h8⟩, ⟨by show (0 : Int) ≤ (a.2.2.2.2.2.2.2.1 : Nat); omega, by show ((a.2.2.2.2.2.2.2.1 : Nat) : Int) < 256; omega⟩⟩, ?_⟩
      show [((a.1 : Nat) % (256 : Int)).toNat] ++ [bbN _] ++ nsN [_, _, _] ++ vbN _ _ _ ++ [bbN _] ++ [((a.2.2.2.2.2.2.2.1 : Nat) % (256 : Int)).toNat] ++ tbN _ = _
      rw [ns3, nat8, nat8, Nat.mod_eq_of_lt h1, Nat.mod_eq_of_lt h10]
      simp only [List.append_assoc])
  exact q
theorem rwFl : Rw bs (rdFl bs) flbN GFl := by
  have q := ((rwT h8 hn).seq ((rwN h8).seq ((rwN h8).seq ((rwN h8).seq ((rwN h8).seq ((rwN h8).seq ((rwL h8 hn (rwOp h8 hn) (fun v => by rw [obN_len]; omega)).seq (rwL h8 hn (rwLp h8) (fun v => by rw [lbN_len]; omega))))))))).map
    (fun v => (⟨v.1, v.2.1, v.2.2.1, v.2.2.2.1, v.2.2.2.2.1, v.2.2.2.2.2.1, v.2.2.2.2.2.2.1, v.2.2.2.2.2.2.2⟩ : FlR))
    (fun f : FlR => (f.nm, f.wh, f.ce, f.ba, f.rg, f.sl, f.os, f.ls)) flbN GFl
    (fun f hf => by
      obtain ⟨h1, h2, h3, h4, h5, h6, h7⟩ := hf
      refine ⟨rfl, ⟨trivial, h1, h2, h3, h4, h5, h6, h7⟩, ?_⟩
      show tbN f.nm ++ (nbN f.wh ++ (nbN f.ce ++ (nbN f.ba ++ (nbN f.rg ++ (nbN f.sl ++ (lsN obN f.os ++ lsN lbN f.ls)))))) = flbN f
      unfold flbN
      rw [ns5]
      simp only [List.append_assoc])
    (fun a ha => by
      obtain ⟨_, h1, h2, h3, h4, h5, h6, h7⟩ := ha
      refine ⟨⟨h1, h2, h3, h4, h5, h6, h7⟩, ?_⟩
      show tbN _ ++ nsN [_, _, _, _, _] ++ lsN obN _ ++ lsN lbN _ = _
      rw [ns5]
      simp only [List.append_assoc])
  exact q
theorem rwJb : Rw bs (rdJb bs) jbN GJb := by
  have q := ((rwT h8 hn).seq ((rwN h8).seq ((rwN h8).seq ((rwN h8).seq ((rwL h8 hn (rwN h8) (fun v => by rw [nbN_len]; omega)).seq ((rwL h8 hn (rwN h8) (fun v => by rw [nbN_len]; omega)).seq (rwN h8))))))).map
    (fun v => (⟨v.1, v.2.1, v.2.2.1, v.2.2.2.1, v.2.2.2.2.1, v.2.2.2.2.2.1, v.2.2.2.2.2.2⟩ : JbR))
    (fun j : JbR => (j.nm, j.iv, j.sg, j.pr, j.cs, j.bs, j.bd)) jbN GJb
    (fun j hj => by
      obtain ⟨h1, h2, h3, h4, h5, h6⟩ := hj
      refine ⟨rfl, ⟨trivial, h1, h2, h3, h4, h5, h6⟩, ?_⟩
      show tbN j.nm ++ (nbN j.iv ++ (nbN j.sg ++ (nbN j.pr ++ (lsN nbN j.cs ++ (lsN nbN j.bs ++ nbN j.bd))))) = jbN j
      unfold jbN
      rw [ns3]
      simp only [List.append_assoc])
    (fun a ha => by
      obtain ⟨_, h1, h2, h3, h4, h5, h6⟩ := ha
      refine ⟨⟨h1, h2, h3, h4, h5, h6⟩, ?_⟩
      show tbN _ ++ nsN [_, _, _] ++ lsN nbN _ ++ lsN nbN _ ++ nbN _ = _
      rw [ns3]
      simp only [List.append_assoc])
  exact q
/-- What stands behind an image's first four bytes. -/
def imrN (m : ImR) : List Nat := tbN m.nm ++ lsN cbN m.cs ++ lsN flbN m.fs ++ lsN jbN m.js
theorem rwIm : Rw bs (rdIm bs) imrN GIm := by
  have q := ((rwT h8 hn).seq ((rwL h8 hn (rwCe h8 hn) (fun v => by rw [cbN_len]; omega)).seq ((rwL h8 hn (rwFl h8 hn) (fun v => by unfold flbN; rw [List.length_append, List.length_append, List.length_append, tbN_len]; omega)).seq (rwL h8 hn (rwJb h8 hn) (fun v => by unfold jbN; rw [List.length_append, nbN_len]; omega))))).map
    (fun v => (⟨v.1, v.2.1, v.2.2.1, v.2.2.2⟩ : ImR)) (fun m : ImR => (m.nm, m.cs, m.fs, m.js)) imrN GIm
    (fun m hm => by
      obtain ⟨h1, h2, h3⟩ := hm
      refine ⟨rfl, ⟨trivial, h1, h2, h3⟩, ?_⟩
      show tbN m.nm ++ (lsN cbN m.cs ++ (lsN flbN m.fs ++ lsN jbN m.js)) = imrN m
      unfold imrN
      simp only [List.append_assoc])
    (fun a ha => by
      obtain ⟨_, h1, h2, h3⟩ := ha
      refine ⟨⟨h1, h2, h3⟩, ?_⟩
      show tbN _ ++ lsN cbN _ ++ lsN flbN _ ++ lsN jbN _ = _
      simp only [List.append_assoc])
  exact q
end
theorem imb_r (m : ImR) : imbN m = [114, 108, 121, 1] ++ imrN m := by
  unfold imbN imrN
  rw [show sbN ⟨#[114, 108, 121, 1]⟩ = [114, 108, 121, 1] by decide]
  simp only [List.append_assoc]
end Go.Proofs.YtkickdmomompjaaGreat
namespace Go.Proofs.YtkickdmomompjaaGreat
set_option linter.unusedVariables false
open Go.RowKit
/-- How an image's bytes begin. -/
def magN (k : Nat) : Nat := [114, 108, 121, 1].getD k 0
/-- The first byte of the beginning that is another one. -/
def fm (l : List Nat) : Option Nat := if 0 < l.length ∧ l.getD 0 0 ≠ 114 then some 0 else if 1 < l.length ∧ l.getD 1 0 ≠ 108 then some 1 else if 2 < l.length ∧ l.getD 2 0 ≠ 121 then some 2 else if 3 < l.length ∧ l.getD 3 0 ≠ 1 then some 3 else none
def frO (l : List Nat) : Int × Int := if 4194304 < l.length then (0, 4) else match fm l with
  | some i => (i, 200)
  | none => if l.length < 8 then (l.length, 2) else if cr4N (crcF (l.take (l.length - 4))) = l.drop (l.length - 4) then (0, 0) else (l.length - 4, 201)
theorem fm_at {l : List Nat} {k : Nat} (h4 : k < 4) (hk : k < l.length) (hp : ∀ j, j < k → l.getD j 0 = magN j) (hb : l.getD k 0 ≠ magN k) : fm l = some k := by
  unfold fm
  have h0 := hp 0
  have h1 := hp 1
  have h2 := hp 2
  match k, h4 with
  | 0, _ => rw [if_pos ⟨hk, hb⟩]
  | 1, _ => rw [if_neg (fun q => q.2 (h0 (by omega))), if_pos ⟨hk, hb⟩]
  | 2, _ => rw [if_neg (fun q => q.2 (h0 (by omega))), if_neg (fun q => q.2 (h1 (by omega))), if_pos ⟨hk, hb⟩]
  | 3, _ => rw [if_neg (fun q => q.2 (h0 (by omega))), if_neg (fun q => q.2 (h1 (by omega))), if_neg (fun q => q.2 (h2 (by omega))), if_pos ⟨hk, hb⟩]
theorem fm_no {l : List Nat} (hp : ∀ j, j < 4 → j < l.length → l.getD j 0 = magN j) : fm l = none := by
  unfold fm
  rw [if_neg (fun q => q.2 (hp 0 (by omega) q.1)), if_neg (fun q => q.2 (hp 1 (by omega) q.1)), if_neg (fun q => q.2 (hp 2 (by omega) q.1)), if_neg (fun q => q.2 (hp 3 (by omega) q.1))]
/-- Bytes of a slice. -/
def BySl (x : Option Addr) (l : List Nat) (w : World) : Prop := ∀ (k : Nat) b, l[k]? = some b → ∃ kb o, x = some ⟨kb, o, none⟩ ∧ kb < w.heap.size ∧ w.cell? ⟨kb, o + k, none⟩ = some (.int .u8 b)
theorem frO_bad {l : List Nat} {k : Nat} (hl : l.length ≤ 4194304) (h : fm l = some k) : frO l = ((k : Int), 200) := by
  unfold frO
  rw [if_neg (by omega), h]
theorem frO_short {l : List Nat} (hl : l.length < 8) (h : fm l = none) : frO l = ((l.length : Int), 2) := by
  unfold frO
  rw [if_neg (by omega), h]
  show (if l.length < 8 then _ else _) = _
  rw [if_pos hl]
theorem bl_drewN {w V : World} (h : Below w.heap.size w V) (k : Nat) : Below w.heap.size w (V.drewN k) := h.trans ⟨rfl, rfl, rfl, Nat.le_refl _, fun _ _ => rfl⟩
theorem drop4 {l : List Nat} {E a b c d : Nat} (h : l.length = E + 4) (h0 : l[E]? = some a) (h1 : l[E + 1]? = some b) (h2 : l[E + 2]? = some c) (h3 : l[E + 3]? = some d) : l.drop E = [a, b, c, d] := by
  apply List.ext_getElem?
  intro i
  rw [List.getElem?_drop]
  match i with
  | 0 => simpa using h0
  | 1 => simpa using h1
  | 2 => simpa using h2
  | 3 => simpa using h3
  | k + 4 => rw [List.getElem?_eq_none (by omega)]; rfl
set_option maxRecDepth 20000 in
set_option maxHeartbeats 8000000 in
theorem frameX (x : Option Addr) (c : Nat) (l : List Nat) (w : World) (h8 : ∀ b ∈ l, b < 256) (hx : BySl x l w) (hc : l.length ≤ c) (hn : l.length ≤ 1099511627776) :
    Calls Tryz.prog 16 #[.slice x l.length c] w fun e w' => e = .returned (.tuple #[.int .i64 (frO l).1, .int .i64 (frO l).2]) ∧ Below w.heap.size w w' := by
  have HX : Hid (BySl x l w) := hx
  have HC : Hid (l.length ≤ c) := hc
  have HN : Hid (l.length ≤ 1099511627776) := hn
  have H8 : Hid (∀ b ∈ l, b < 256) := h8
  clear hx hc hn h8
  by_cases hb : 4194304 < l.length
  · have hb' : (4194304 : Int) < l.length := by omega
    have e : frO l = (0, 4) := by unfold frO; rw [if_pos hb]
    rw [e]
    clear hb e
    go_enter Tryz.func16, Tryz.ntmps16
    go_wp2
    go_ret2
    exact ⟨rfl, Below.refl _ _⟩
  · have hb' : ¬ (4194304 : Int) < l.length := by omega
    have LN : Hid (l.length ≤ 4194304) := by show _ ≤ _; omega
    obtain ⟨u, eu⟩ : ∃ u, frO l = u := ⟨_, rfl⟩
    rw [eu]
    have RE : Hid (frO l = u) := eu
    clear hb eu
    by_cases h4 : (l.length : Int) ≤ 4
    · have h5 : l.length ≤ 4 := by omega
      go_enter Tryz.func16, Tryz.ntmps16
      go_upto_region 3 with fail
      go_wp2
      go_loopw [4, 12] (fun a i wr => ∃ k : Nat, i = .int .i64 k ∧ k ≤ l.length ∧ (∀ j, j < k → l.getD j 0 = magN j) ∧ Below w.heap.size w wr) (fun _ i _ => l.length - (intOf i).toNat)
      case atStart => exact ⟨0, rfl, Nat.zero_le _, fun j hj => absurd hj (Nat.not_lt_zero _), Below.refl _ _⟩
      case round =>
        obtain ⟨k, rfl, hkM, hE, hW⟩ := hrel
        by_cases hk : k < l.length
        · have h44 : k = 0 ∨ k = 1 ∨ k = 2 ∨ k = 3 := by omega
          have hkl : k < l.length := by omega
          obtain ⟨b, eb⟩ : ∃ b, l.getD k 0 = b := ⟨_, rfl⟩
          have hb : l[k]? = some b := by rw [← eb, List.getD_eq_getElem?_getD, List.getElem?_eq_getElem hkl]; rfl
          obtain ⟨kb, o, hx, hk1, hk2⟩ := HX.out k _ hb
          subst hx
          have v0 := (hW.cell hk1).trans hk2
          have hb8 := H8.out _ (List.mem_of_getElem? hb)
          have BW : Hid (Below w.heap.size w wr) := hW
          have EQ : Hid (∀ j, j < k → l.getD j 0 = magN j) := hE
          have GD : Hid (l.getD k 0 = b ∧ k < l.length ∧ k < l.length) := ⟨eb, hkl, hk⟩
          clear hW hE hk1 hk2 hb eb hkM hk
          rcases h44 with h | h | h | h
          · subst h
            have kM : (((0 : Nat) : Int)) < l.length := by have := GD.out; omega
            have kn : (((0 : Nat) : Int)) < l.length := by omega
            try rw [Nat.add_zero] at v0
            clear hkl
            by_cases q : b = 114
            · subst q
              go_upto_region 6 with fail
              go_quiet (fail)
              obtain ⟨W, eW⟩ : ∃ W, W = wr.drewN nq := ⟨_, rfl⟩
              rw [← eW]
              have B2 : Hid (Below w.heap.size w W) := by rw [eW]; exact bl_drewN BW.out _
              clear eW v0
              go_wp2
              exact ⟨⟨0 + 1, rfl, by have := GD.out; omega, fun j hj => by rcases Nat.lt_succ_iff_lt_or_eq.1 hj with z | z; exact EQ.out j z; subst z; exact GD.out.1, B2.out⟩, by have := GD.out; show l.length - (((0 : Nat) : Int) + 1).toNat < l.length - (((0 : Nat) : Int)).toNat; omega⟩
            · have q' : ((b : Int) == 114) = false := by rw [beq_eq_false_iff_ne]; omega
              have q2 : ¬ (b : Int) = 114 := by omega
              have q3 : ((b : Int) != 114) = true := by rw [bne_iff_ne]; omega
              have q4 : ¬ b = 114 := q
              have U : Hid (u = (((0 : Nat) : Int), 200)) := by
                have z := frO_bad LN.out (fm_at (k := 0) (by omega) GD.out.2.1 EQ.out (by rw [GD.out.1]; exact q))
                show _ = _
                rw [← RE.out]; exact z
              clear q
              go_upto_region 6 with fail
              go_quiet (fail)
              obtain ⟨W, eW⟩ : ∃ W, W = wr.drewN nq := ⟨_, rfl⟩
              rw [← eW]
              have B2 : Hid (Below w.heap.size w W) := by rw [eW]; exact bl_drewN BW.out _
              clear eW v0
              go_wp2
              all_goals first
                | (rename_i hh; exact absurd (show ((b : Int) != 114) = false from hh) (by rw [q3]; decide))
                | (go_ret2; exact ⟨by rw [U.out]; rfl, B2.out⟩)
          · subst h
            have kM : (((1 : Nat) : Int)) < l.length := by have := GD.out; omega
            have kn : (((1 : Nat) : Int)) < l.length := by omega
            try rw [Nat.add_zero] at v0
            clear hkl
            by_cases q : b = 108
            · subst q
              go_upto_region 6 with fail
              go_quiet (fail)
              obtain ⟨W, eW⟩ : ∃ W, W = wr.drewN nq := ⟨_, rfl⟩
              rw [← eW]
              have B2 : Hid (Below w.heap.size w W) := by rw [eW]; exact bl_drewN BW.out _
              clear eW v0
              go_wp2
              exact ⟨⟨1 + 1, rfl, by have := GD.out; omega, fun j hj => by rcases Nat.lt_succ_iff_lt_or_eq.1 hj with z | z; exact EQ.out j z; subst z; exact GD.out.1, B2.out⟩, by have := GD.out; show l.length - (((1 : Nat) : Int) + 1).toNat < l.length - (((1 : Nat) : Int)).toNat; omega⟩
            · have q' : ((b : Int) == 108) = false := by rw [beq_eq_false_iff_ne]; omega
              have q2 : ¬ (b : Int) = 108 := by omega
              have q3 : ((b : Int) != 108) = true := by rw [bne_iff_ne]; omega
              have q4 : ¬ b = 108 := q
              have U : Hid (u = (((1 : Nat) : Int), 200)) := by
                have z := frO_bad LN.out (fm_at (k := 1) (by omega) GD.out.2.1 EQ.out (by rw [GD.out.1]; exact q))
                show _ = _
                rw [← RE.out]; exact z
              clear q
              go_upto_region 6 with fail
              go_quiet (fail)
              obtain ⟨W, eW⟩ : ∃ W, W = wr.drewN nq := ⟨_, rfl⟩
              rw [← eW]
              have B2 : Hid (Below w.heap.size w W) := by rw [eW]; exact bl_drewN BW.out _
              clear eW v0
              go_wp2
              all_goals first
                | (rename_i hh; exact absurd (show ((b : Int) != 108) = false from hh) (by rw [q3]; decide))
                | (go_ret2; exact ⟨by rw [U.out]; rfl, B2.out⟩)
          · subst h
            have kM : (((2 : Nat) : Int)) < l.length := by have := GD.out; omega
            have kn : (((2 : Nat) : Int)) < l.length := by omega
            try rw [Nat.add_zero] at v0
            clear hkl
            by_cases q : b = 121
            · subst q
              go_upto_region 6 with fail
              go_quiet (fail)
              obtain ⟨W, eW⟩ : ∃ W, W = wr.drewN nq := ⟨_, rfl⟩
              rw [← eW]
              have B2 : Hid (Below w.heap.size w W) := by rw [eW]; exact bl_drewN BW.out _
              clear eW v0
              go_wp2
              exact ⟨⟨2 + 1, rfl, by have := GD.out; omega, fun j hj => by rcases Nat.lt_succ_iff_lt_or_eq.1 hj with z | z; exact EQ.out j z; subst z; exact GD.out.1, B2.out⟩, by have := GD.out; show l.length - (((2 : Nat) : Int) + 1).toNat < l.length - (((2 : Nat) : Int)).toNat; omega⟩
            · have q' : ((b : Int) == 121) = false := by rw [beq_eq_false_iff_ne]; omega
              have q2 : ¬ (b : Int) = 121 := by omega
              have q3 : ((b : Int) != 121) = true := by rw [bne_iff_ne]; omega
              have q4 : ¬ b = 121 := q
              have U : Hid (u = (((2 : Nat) : Int), 200)) := by
                have z := frO_bad LN.out (fm_at (k := 2) (by omega) GD.out.2.1 EQ.out (by rw [GD.out.1]; exact q))
                show _ = _
                rw [← RE.out]; exact z
              clear q
              go_upto_region 6 with fail
              go_quiet (fail)
              obtain ⟨W, eW⟩ : ∃ W, W = wr.drewN nq := ⟨_, rfl⟩
              rw [← eW]
              have B2 : Hid (Below w.heap.size w W) := by rw [eW]; exact bl_drewN BW.out _
              clear eW v0
              go_wp2
              all_goals first
                | (rename_i hh; exact absurd (show ((b : Int) != 121) = false from hh) (by rw [q3]; decide))
                | (go_ret2; exact ⟨by rw [U.out]; rfl, B2.out⟩)
          · subst h
            have kM : (((3 : Nat) : Int)) < l.length := by have := GD.out; omega
            have kn : (((3 : Nat) : Int)) < l.length := by omega
            try rw [Nat.add_zero] at v0
            clear hkl
            by_cases q : b = 1
            · subst q
              go_upto_region 6 with fail
              go_quiet (fail)
              obtain ⟨W, eW⟩ : ∃ W, W = wr.drewN nq := ⟨_, rfl⟩
              rw [← eW]
              have B2 : Hid (Below w.heap.size w W) := by rw [eW]; exact bl_drewN BW.out _
              clear eW v0
              go_wp2
              exact ⟨⟨3 + 1, rfl, by have := GD.out; omega, fun j hj => by rcases Nat.lt_succ_iff_lt_or_eq.1 hj with z | z; exact EQ.out j z; subst z; exact GD.out.1, B2.out⟩, by have := GD.out; show l.length - (((3 : Nat) : Int) + 1).toNat < l.length - (((3 : Nat) : Int)).toNat; omega⟩
            · have q' : ((b : Int) == 1) = false := by rw [beq_eq_false_iff_ne]; omega
              have q2 : ¬ (b : Int) = 1 := by omega
              have q3 : ((b : Int) != 1) = true := by rw [bne_iff_ne]; omega
              have q4 : ¬ b = 1 := q
              have U : Hid (u = (((3 : Nat) : Int), 200)) := by
                have z := frO_bad LN.out (fm_at (k := 3) (by omega) GD.out.2.1 EQ.out (by rw [GD.out.1]; exact q))
                show _ = _
                rw [← RE.out]; exact z
              clear q
              go_upto_region 6 with fail
              go_quiet (fail)
              obtain ⟨W, eW⟩ : ∃ W, W = wr.drewN nq := ⟨_, rfl⟩
              rw [← eW]
              have B2 : Hid (Below w.heap.size w W) := by rw [eW]; exact bl_drewN BW.out _
              clear eW v0
              go_wp2
              all_goals first
                | (rename_i hh; exact absurd (show ((b : Int) != 1) = false from hh) (by rw [q3]; decide))
                | (go_ret2; exact ⟨by rw [U.out]; rfl, B2.out⟩)
        · have ek : k = l.length := by omega
          subst ek
          have BW : Hid (Below w.heap.size w wr) := hW
          have EQ : Hid (∀ j, j < l.length → l.getD j 0 = magN j) := hE
          clear hk hkM hW hE
          have U : Hid (u = ((l.length : Int), 2)) := by
            have z := frO_short (l := l) (by omega) (fm_no (fun j h1 h2 => EQ.out j h2))
            show _ = _
            rw [← RE.out]; exact z
          have e1 : wrap64 ((l.length : Int) - 4) = (l.length : Int) - 4 := by have := LN.out; unfold wrap64; omega
          have e2 : (l.length : Int) - 4 < 4 := by omega
          go_wp2
          go_ret2
          exact ⟨by rw [U.out]; rfl, BW.out⟩
    · have h5 : ¬ l.length ≤ 4 := by omega
      go_enter Tryz.func16, Tryz.ntmps16
      go_upto_region 3 with fail
      go_wp2
      go_loopw [4, 12] (fun a i wr => ∃ k : Nat, i = .int .i64 k ∧ k ≤ 4 ∧ (∀ j, j < k → l.getD j 0 = magN j) ∧ Below w.heap.size w wr) (fun _ i _ => 4 - (intOf i).toNat)
      case atStart => exact ⟨0, rfl, Nat.zero_le _, fun j hj => absurd hj (Nat.not_lt_zero _), Below.refl _ _⟩
      case round =>
        obtain ⟨k, rfl, hkM, hE, hW⟩ := hrel
        by_cases hk : k < 4
        · have h44 : k = 0 ∨ k = 1 ∨ k = 2 ∨ k = 3 := by omega
          have hkl : k < l.length := by omega
          obtain ⟨b, eb⟩ : ∃ b, l.getD k 0 = b := ⟨_, rfl⟩
          have hb : l[k]? = some b := by rw [← eb, List.getD_eq_getElem?_getD, List.getElem?_eq_getElem hkl]; rfl
          obtain ⟨kb, o, hx, hk1, hk2⟩ := HX.out k _ hb
          subst hx
          have v0 := (hW.cell hk1).trans hk2
          have hb8 := H8.out _ (List.mem_of_getElem? hb)
          have BW : Hid (Below w.heap.size w wr) := hW
          have EQ : Hid (∀ j, j < k → l.getD j 0 = magN j) := hE
          have GD : Hid (l.getD k 0 = b ∧ k < l.length ∧ k < 4) := ⟨eb, hkl, hk⟩
          clear hW hE hk1 hk2 hb eb hkM hk
          rcases h44 with h | h | h | h
          · subst h
            have kM : (((0 : Nat) : Int)) < 4 := by have := GD.out; omega
            have kn : (((0 : Nat) : Int)) < l.length := by omega
            try rw [Nat.add_zero] at v0
            clear hkl
            by_cases q : b = 114
            · subst q
              go_upto_region 6 with fail
              go_quiet (fail)
              obtain ⟨W, eW⟩ : ∃ W, W = wr.drewN nq := ⟨_, rfl⟩
              rw [← eW]
              have B2 : Hid (Below w.heap.size w W) := by rw [eW]; exact bl_drewN BW.out _
              clear eW v0
              go_wp2
              exact ⟨⟨0 + 1, rfl, by have := GD.out; omega, fun j hj => by rcases Nat.lt_succ_iff_lt_or_eq.1 hj with z | z; exact EQ.out j z; subst z; exact GD.out.1, B2.out⟩, by have := GD.out; show 4 - (((0 : Nat) : Int) + 1).toNat < 4 - (((0 : Nat) : Int)).toNat; omega⟩
            · have q' : ((b : Int) == 114) = false := by rw [beq_eq_false_iff_ne]; omega
              have q2 : ¬ (b : Int) = 114 := by omega
              have q3 : ((b : Int) != 114) = true := by rw [bne_iff_ne]; omega
              have q4 : ¬ b = 114 := q
              have U : Hid (u = (((0 : Nat) : Int), 200)) := by
                have z := frO_bad LN.out (fm_at (k := 0) (by omega) GD.out.2.1 EQ.out (by rw [GD.out.1]; exact q))
                show _ = _
                rw [← RE.out]; exact z
              clear q
              go_upto_region 6 with fail
              go_quiet (fail)
              obtain ⟨W, eW⟩ : ∃ W, W = wr.drewN nq := ⟨_, rfl⟩
              rw [← eW]
              have B2 : Hid (Below w.heap.size w W) := by rw [eW]; exact bl_drewN BW.out _
              clear eW v0
              go_wp2
              all_goals first
                | (rename_i hh; exact absurd (show ((b : Int) != 114) = false from hh) (by rw [q3]; decide))
                | (go_ret2; exact ⟨by rw [U.out]; rfl, B2.out⟩)
          · subst h
            have kM : (((1 : Nat) : Int)) < 4 := by have := GD.out; omega
            have kn : (((1 : Nat) : Int)) < l.length := by omega
            try rw [Nat.add_zero] at v0
            clear hkl
            by_cases q : b = 108
            · subst q
              go_upto_region 6 with fail
              go_quiet (fail)
              obtain ⟨W, eW⟩ : ∃ W, W = wr.drewN nq := ⟨_, rfl⟩
              rw [← eW]
              have B2 : Hid (Below w.heap.size w W) := by rw [eW]; exact bl_drewN BW.out _
              clear eW v0
              go_wp2
              exact ⟨⟨1 + 1, rfl, by have := GD.out; omega, fun j hj => by rcases Nat.lt_succ_iff_lt_or_eq.1 hj with z | z; exact EQ.out j z; subst z; exact GD.out.1, B2.out⟩, by have := GD.out; show 4 - (((1 : Nat) : Int) + 1).toNat < 4 - (((1 : Nat) : Int)).toNat; omega⟩
            · have q' : ((b : Int) == 108) = false := by rw [beq_eq_false_iff_ne]; omega
              have q2 : ¬ (b : Int) = 108 := by omega
              have q3 : ((b : Int) != 108) = true := by rw [bne_iff_ne]; omega
              have q4 : ¬ b = 108 := q
              have U : Hid (u = (((1 : Nat) : Int), 200)) := by
                have z := frO_bad LN.out (fm_at (k := 1) (by omega) GD.out.2.1 EQ.out (by rw [GD.out.1]; exact q))
                show _ = _
                rw [← RE.out]; exact z
              clear q
              go_upto_region 6 with fail
              go_quiet (fail)
              obtain ⟨W, eW⟩ : ∃ W, W = wr.drewN nq := ⟨_, rfl⟩
              rw [← eW]
              have B2 : Hid (Below w.heap.size w W) := by rw [eW]; exact bl_drewN BW.out _
              clear eW v0
              go_wp2
              all_goals first
                | (rename_i hh; exact absurd (show ((b : Int) != 108) = false from hh) (by rw [q3]; decide))
                | (go_ret2; exact ⟨by rw [U.out]; rfl, B2.out⟩)
          · subst h
            have kM : (((2 : Nat) : Int)) < 4 := by have := GD.out; omega
            have kn : (((2 : Nat) : Int)) < l.length := by omega
            try rw [Nat.add_zero] at v0
            clear hkl
            by_cases q : b = 121
            · subst q
              go_upto_region 6 with fail
              go_quiet (fail)
              obtain ⟨W, eW⟩ : ∃ W, W = wr.drewN nq := ⟨_, rfl⟩
              rw [← eW]
              have B2 : Hid (Below w.heap.size w W) := by rw [eW]; exact bl_drewN BW.out _
              clear eW v0
              go_wp2
              exact ⟨⟨2 + 1, rfl, by have := GD.out; omega, fun j hj => by rcases Nat.lt_succ_iff_lt_or_eq.1 hj with z | z; exact EQ.out j z; subst z; exact GD.out.1, B2.out⟩, by have := GD.out; show 4 - (((2 : Nat) : Int) + 1).toNat < 4 - (((2 : Nat) : Int)).toNat; omega⟩
            · have q' : ((b : Int) == 121) = false := by rw [beq_eq_false_iff_ne]; omega
              have q2 : ¬ (b : Int) = 121 := by omega
              have q3 : ((b : Int) != 121) = true := by rw [bne_iff_ne]; omega
              have q4 : ¬ b = 121 := q
              have U : Hid (u = (((2 : Nat) : Int), 200)) := by
                have z := frO_bad LN.out (fm_at (k := 2) (by omega) GD.out.2.1 EQ.out (by rw [GD.out.1]; exact q))
                show _ = _
                rw [← RE.out]; exact z
              clear q
              go_upto_region 6 with fail
              go_quiet (fail)
              obtain ⟨W, eW⟩ : ∃ W, W = wr.drewN nq := ⟨_, rfl⟩
              rw [← eW]
              have B2 : Hid (Below w.heap.size w W) := by rw [eW]; exact bl_drewN BW.out _
              clear eW v0
              go_wp2
              all_goals first
                | (rename_i hh; exact absurd (show ((b : Int) != 121) = false from hh) (by rw [q3]; decide))
                | (go_ret2; exact ⟨by rw [U.out]; rfl, B2.out⟩)
          · subst h
            have kM : (((3 : Nat) : Int)) < 4 := by have := GD.out; omega
            have kn : (((3 : Nat) : Int)) < l.length := by omega
            try rw [Nat.add_zero] at v0
            clear hkl
            by_cases q : b = 1
            · subst q
              go_upto_region 6 with fail
              go_quiet (fail)
              obtain ⟨W, eW⟩ : ∃ W, W = wr.drewN nq := ⟨_, rfl⟩
              rw [← eW]
              have B2 : Hid (Below w.heap.size w W) := by rw [eW]; exact bl_drewN BW.out _
              clear eW v0
              go_wp2
              exact ⟨⟨3 + 1, rfl, by have := GD.out; omega, fun j hj => by rcases Nat.lt_succ_iff_lt_or_eq.1 hj with z | z; exact EQ.out j z; subst z; exact GD.out.1, B2.out⟩, by have := GD.out; show 4 - (((3 : Nat) : Int) + 1).toNat < 4 - (((3 : Nat) : Int)).toNat; omega⟩
            · have q' : ((b : Int) == 1) = false := by rw [beq_eq_false_iff_ne]; omega
              have q2 : ¬ (b : Int) = 1 := by omega
              have q3 : ((b : Int) != 1) = true := by rw [bne_iff_ne]; omega
              have q4 : ¬ b = 1 := q
              have U : Hid (u = (((3 : Nat) : Int), 200)) := by
                have z := frO_bad LN.out (fm_at (k := 3) (by omega) GD.out.2.1 EQ.out (by rw [GD.out.1]; exact q))
                show _ = _
                rw [← RE.out]; exact z
              clear q
              go_upto_region 6 with fail
              go_quiet (fail)
              obtain ⟨W, eW⟩ : ∃ W, W = wr.drewN nq := ⟨_, rfl⟩
              rw [← eW]
              have B2 : Hid (Below w.heap.size w W) := by rw [eW]; exact bl_drewN BW.out _
              clear eW v0
              go_wp2
              all_goals first
                | (rename_i hh; exact absurd (show ((b : Int) != 1) = false from hh) (by rw [q3]; decide))
                | (go_ret2; exact ⟨by rw [U.out]; rfl, B2.out⟩)
        · have ek : k = 4 := by omega
          subst ek
          have BW : Hid (Below w.heap.size w wr) := hW
          have EQ : Hid (∀ j, j < 4 → l.getD j 0 = magN j) := hE
          clear hk hkM hW hE
          by_cases h8 : l.length < 8
          · have U : Hid (u = ((l.length : Int), 2)) := by
              have z := frO_short (l := l) (by omega) (fm_no (fun j h1 h2 => EQ.out j h1))
              show _ = _
              rw [← RE.out]; exact z
            have e1 : wrap64 ((l.length : Int) - 4) = (l.length : Int) - 4 := by have := LN.out; unfold wrap64; omega
            have e2 : (l.length : Int) - 4 < 4 := by omega
            go_wp2
            go_ret2
            exact ⟨by rw [U.out]; rfl, BW.out⟩
          · obtain ⟨E, hE⟩ : ∃ E, E = l.length - 4 := ⟨_, rfl⟩
            have e1 : wrap64 ((l.length : Int) - 4) = (E : Int) := by have := LN.out; unfold wrap64; omega
            have e2 : ¬ (E : Int) < 4 := by omega
            have e3 : ((E : Nat) : Int).toNat = E := by omega
            have e4 : E ≤ c := by have := HC.out; omega
            have e5 : (E : Int) ≤ c := by omega
            have e6 : (E : Int) ≤ l.length := by omega
            have e7 : E ≤ l.length := by omega
            have e8 : l.length - E = 4 := by omega
            have e9 : ¬ c = E := by have := HC.out; omega
            have ea : ¬ c - E = 0 := by omega
            have eb : l.length ≤ c := HC.out
            obtain ⟨b, hb⟩ : ∃ b, l[0]? = some b := ⟨_, List.getElem?_eq_getElem (by omega)⟩
            obtain ⟨kb, o, hx, hk1, _⟩ := HX.out 0 _ hb
            subst hx
            have kl : kb < wr.heap.size := Nat.lt_of_lt_of_le hk1 BW.out.size
            have CL : ∀ (i v : Nat), l[i]? = some v → wr.cell? ⟨kb, o + i, none⟩ = some (.int .u8 v) := fun i v hv => by
              obtain ⟨kb', o', hx, h1, h2⟩ := HX.out i v hv
              cases hx
              exact (BW.out.cell h1).trans h2
            obtain ⟨b0, hb0⟩ : ∃ b, l[E]? = some b := ⟨_, List.getElem?_eq_getElem (by omega)⟩
            obtain ⟨b1, hb1⟩ : ∃ b, l[E + 1]? = some b := ⟨_, List.getElem?_eq_getElem (by omega)⟩
            obtain ⟨b2, hb2⟩ : ∃ b, l[E + 2]? = some b := ⟨_, List.getElem?_eq_getElem (by omega)⟩
            obtain ⟨b3, hb3⟩ : ∃ b, l[E + 3]? = some b := ⟨_, List.getElem?_eq_getElem (by omega)⟩
            have DR : Hid (l.drop E = [b0, b1, b2, b3]) := drop4 (by omega) hb0 hb1 hb2 hb3
            have G8 : Hid (b0 < 256 ∧ b1 < 256 ∧ b2 < 256 ∧ b3 < 256) := ⟨H8.out _ (List.mem_of_getElem? hb0), H8.out _ (List.mem_of_getElem? hb1), H8.out _ (List.mem_of_getElem? hb2), H8.out _ (List.mem_of_getElem? hb3)⟩
            have v0 := CL _ _ hb0
            have v1 := CL _ _ hb1
            have v2 := CL _ _ hb2
            have v3 := CL _ _ hb3
            rw [← Nat.add_assoc] at v1 v2 v3
            have SM : Hid (∀ y : Sub wr, Calls Tryz.prog 11 #[.slice (some ⟨kb, o, none⟩) E c] y.w fun e w' => e = .returned (cr4 (crcF (l.take E))) ∧ Below y.w.heap.size y.w w') := fun y =>
              sumOfX_of (some ⟨kb, o, none⟩) E c (l.take E) y.w (by have := LN.out; omega) (by rw [List.length_take]; omega) (fun b hb => H8.out b (List.mem_of_mem_take hb)) (fun i v hv => ⟨⟨kb, o, none⟩, rfl, Nat.lt_of_lt_of_le kl y.h.size, by
                have hv' : l[i]? = some v := by rw [List.getElem?_take] at hv; split at hv; exact hv; cases hv
                rw [add_kb]
                exact (y.h.cell kl).trans (CL i v hv')⟩)
            have UU : Hid (u = if cr4N (crcF (l.take E)) = l.drop E then (0, 0) else ((E : Int), 201)) := by
              show _ = _
              rw [← RE.out]
              unfold frO
              rw [if_neg (by have := LN.out; omega), fm_no (fun j h1 h2 => EQ.out j h1)]
              show (if l.length < 8 then _ else _) = _
              rw [if_neg h8, hE]
              congr 1
              show (((l.length : Int) - 4), (201 : Int)) = (((l.length - 4 : Nat) : Int), 201)
              congr 1
              omega
            generalize crcF (l.take E) = cc at *
            have h6 : ¬ (l.length : Int) - 4 < 4 := by omega
            have h7 : ((l.length : Int) - 4).toNat = l.length - 4 := by omega
            have h9 : (0 : Int) ≤ (l.length : Int) - 4 := by omega
            have h10 : (l.length : Int) - 4 ≤ c := by omega
            have h11 : (l.length : Int) - 4 ≤ l.length := by omega
            clear CL hb hb0 hb1 hb2 hb3 hk1 h8 h5 e1 e2 e3
            subst hE
            go_upto_region 12 with fail
            unfold cr4 at SM
            refine wp_region_sub2 (by kernel_rfl) (by kernel_rfl) ?_
            intro cx
            (first | go_big_quiet_skip | (go_big_quiet_want; go_big_quiet_op; first | go_big_quiet_on | (refine ⟨_, fun _ => rfl, ?_⟩; go_big_quiet_on) | go_big_quiet_call (first | (go_at_call 11; exact calls_sub (SM.out _)))))
            (first | go_big_quiet_skip | (go_big_quiet_want; go_big_quiet_op; first | go_big_quiet_on | (refine ⟨_, fun _ => rfl, ?_⟩; go_big_quiet_on) | go_big_quiet_call (first | (go_at_call 11; exact calls_sub (SM.out _)))))
            (first | go_big_quiet_skip | (go_big_quiet_want; go_big_quiet_op; first | go_big_quiet_on | (refine ⟨_, fun _ => rfl, ?_⟩; go_big_quiet_on) | go_big_quiet_call (first | (go_at_call 11; exact calls_sub (SM.out _)))))
            (first | go_big_quiet_skip | (go_big_quiet_want; go_big_quiet_op; first | go_big_quiet_on | (refine ⟨_, fun _ => rfl, ?_⟩; go_big_quiet_on) | go_big_quiet_call (first | (go_at_call 11; exact calls_sub (SM.out _)))))
            (first | go_big_quiet_skip | (go_big_quiet_want; go_big_quiet_op; first | go_big_quiet_on | (refine ⟨_, fun _ => rfl, ?_⟩; go_big_quiet_on) | go_big_quiet_call (first | (go_at_call 11; exact calls_sub (SM.out _)))))
            (first | go_big_quiet_skip | (go_big_quiet_want; go_big_quiet_op; first | go_big_quiet_on | (refine ⟨_, fun _ => rfl, ?_⟩; go_big_quiet_on) | go_big_quiet_call (first | (go_at_call 11; exact calls_sub (SM.out _)))))
            (first | go_big_quiet_skip | (go_big_quiet_want; go_big_quiet_op; first | go_big_quiet_on | (refine ⟨_, fun _ => rfl, ?_⟩; go_big_quiet_on) | go_big_quiet_call (first | (go_at_call 11; exact calls_sub (SM.out _)))))
            go_big_quiet_want
            go_big_quiet_op
            refine ⟨.pointer (some ⟨kb, o + (l.length - 4), none⟩), fun y => by rw [arr4]; exact ⟨rfl, rfl⟩, ?_⟩
            go_big_quiet_on
            go_big_quiet_want
            go_big_quiet_op
            refine ⟨_, fun _ => rfl, ?_⟩
            go_big_quiet_on
            go_big_quiet_want
            go_big_quiet_op
            refine ⟨.bool (!decide (uW cc % 256 = b0 ∧ uW cc / 256 % 256 = b1 ∧ uW cc / 65536 % 256 = b2 ∧ uW cc / 16777216 % 256 = b3)), fun y => by rw [eqA4 _ _ _ _ _ _ _ _ _ (wf8 _ (by omega) (by omega)) (wf8 _ (by omega) (by omega)) (wf8 _ (by omega) (by omega)) (wf8 _ (by omega) (by omega)) (wf8 _ (by omega) (by have := G8.out.1; omega)) (wf8 _ (by omega) (by have := G8.out.2.1; omega)) (wf8 _ (by omega) (by have := G8.out.2.2.1; omega)) (wf8 _ (by omega) (by have := G8.out.2.2.2; omega))]; exact ⟨rfl, rfl⟩, ?_⟩
            go_big_quiet_on
            refine wpQuiet_nil ?_
            rintro _ ⟨y, rfl⟩
            have BY : Hid (Below w.heap.size w y.w) := BW.out.trans (y.h.mono BW.out.size)
            clear cx
            by_cases q : uW cc % 256 = b0 ∧ uW cc / 256 % 256 = b1 ∧ uW cc / 65536 % 256 = b2 ∧ uW cc / 16777216 % 256 = b3
            · have qd : decide (uW cc % 256 = b0 ∧ uW cc / 256 % 256 = b1 ∧ uW cc / 65536 % 256 = b2 ∧ uW cc / 16777216 % 256 = b3) = true := decide_eq_true q
              rw [qd]
              have U : Hid (u = (0, 0)) := by
                have z := UU.out
                rw [if_pos (by rw [DR.out]; unfold cr4N; rw [q.1, q.2.1, q.2.2.1, q.2.2.2]; rfl)] at z
                exact z
              clear q qd
              go_wp2
              go_ret2
              exact ⟨by rw [U.out]; rfl, BY.out⟩
            · have qd : decide (uW cc % 256 = b0 ∧ uW cc / 256 % 256 = b1 ∧ uW cc / 65536 % 256 = b2 ∧ uW cc / 16777216 % 256 = b3) = false := decide_eq_false q
              rw [qd]
              have U : Hid (u = (((l.length - 4 : Nat) : Int), 201)) := by
                have z := UU.out
                rw [if_neg (by
                  rw [DR.out]
                  unfold cr4N
                  intro e
                  apply q
                  injection e with e0 e
                  injection e with e1 e
                  injection e with e2 e
                  injection e with e3 e
                  omega)] at z
                exact z
              have el : ((l.length - 4 : Nat) : Int) = (l.length : Int) - 4 := by omega
              clear q qd
              go_wp2
              go_ret2
              exact ⟨by rw [U.out, el]; rfl, BY.out⟩
end Go.Proofs.YtkickdmomompjaaGreat
namespace Go.Proofs.YtkickdmomompjaaGreat
set_option linter.unusedVariables false
open Go.RowKit
/-- Without a fault nothing of a fault is told. -/
def Kd (f : RS → RS) : Prop := ∀ s, (f s).y = 0 → s.y = 0 ∧ (f s).a = s.a
theorem Kd.comp {f g : RS → RS} (hf : Kd f) (hg : Kd g) : Kd (fun s => g (f s)) := fun s h => by
  obtain ⟨h1, h2⟩ := hg _ h
  obtain ⟨h3, h4⟩ := hf _ h1
  exact ⟨h3, h2.trans h4⟩
theorem Kd.id : Kd (fun s => s) := fun s h => ⟨h, rfl⟩
section
variable (bs : List Nat)
theorem kdB : Kd (fun s => (rdB bs s).2) := fun s h => by
  change (rdB bs s).2.y = 0 at h
  show s.y = 0 ∧ (rdB bs s).2.a = s.a
  unfold rdB at *
  by_cases q : s.y = 0 ∧ s.p < bs.length
  · rw [if_pos q] at *; exact ⟨q.1, rfl⟩
  · rw [if_neg q] at h; exact absurd h (RS.no_y _ _)
theorem kdN : Kd (fun s => (rdN bs s).2) := fun s h => by
  change (rdN bs s).2.y = 0 at h
  show s.y = 0 ∧ (rdN bs s).2.a = s.a
  unfold rdN at *
  by_cases q : s.y = 0 ∧ s.p + 8 ≤ bs.length
  · rw [if_pos q] at *; exact ⟨q.1, rfl⟩
  · rw [if_neg q] at h; exact absurd h (RS.no_y _ _)
theorem kdF : Kd (fun s => (rdF bs s).2) := fun s h => by
  change (rdF bs s).2.y = 0 at h
  show s.y = 0 ∧ (rdF bs s).2.a = s.a
  unfold rdF at *
  dsimp only at *
  by_cases q : 1 < (rdB bs s).1
  · rw [if_pos q] at h; exact absurd h (show ¬ (203 : Int) = 0 by decide)
  · rw [if_neg q] at *; exact kdB bs s h
theorem kdC : Kd (fun s => (rdC bs s).2) := fun s h => by
  change (rdC bs s).2.y = 0 at h
  show s.y = 0 ∧ (rdC bs s).2.a = s.a
  unfold rdC at *
  dsimp only at *
  by_cases q0 : (rdN bs s).2.y = 0
  · rw [if_pos q0] at *
    by_cases q1 : (rdN bs s).1 < 0
    · rw [if_pos q1] at h; exact absurd h (show ¬ (4 : Int) = 0 by decide)
    · rw [if_neg q1] at *
      by_cases q2 : (bs.length : Int) - (s.p + 8) < (rdN bs s).1
      · rw [if_pos q2] at h; exact absurd h (show ¬ (2 : Int) = 0 by decide)
      · rw [if_neg q2] at *; exact kdN bs s h
  · rw [if_neg q0] at *; exact kdN bs s h
theorem kdT : Kd (fun s => (rdT bs s).2) := fun s h => by
  change (rdT bs s).2.y = 0 at h
  show s.y = 0 ∧ (rdT bs s).2.a = s.a
  unfold rdT at *
  by_cases q : (rdC bs s).2.y = 0
  · rw [if_pos q] at *; exact kdC bs s q
  · rw [if_neg q] at *; exact kdC bs s h
theorem kdV : Kd (fun s => (rdV bs s).2) := ((kdB bs).comp (kdN bs)).comp (kdT bs)
theorem kdNs : ∀ k, Kd (rdNs bs k)
  | 0 => Kd.id
  | k + 1 => (kdNs k).comp (kdN bs)
theorem kdLp : Kd (fun s => (rdLp bs s).2) := ((kdN bs).comp (kdN bs)).comp (kdN bs)
theorem kdOp : Kd (fun s => (rdOp bs s).2) := (kdNs bs 7).comp (kdV bs)
theorem kdKS {α : Type} {rd : RS → α × RS} (h : Kd (fun s => (rd s).2)) : ∀ k, Kd (rdKS rd k)
  | 0 => Kd.id
  | k + 1 => fun s hs => by
    change (if s.y = 0 then rdKS rd k (rd s).2 else s).y = 0 at hs
    show s.y = 0 ∧ (if s.y = 0 then rdKS rd k (rd s).2 else s).a = s.a
    by_cases q : s.y = 0
    · rw [if_pos q] at hs ⊢
      exact (h.comp (kdKS h k)) s hs
    · rw [if_neg q] at hs; exact absurd hs q
theorem kdL {α : Type} {rd : RS → α × RS} (h : Kd (fun s => (rd s).2)) : Kd (fun s => (rdL rd bs s).2) := fun s hs => by
  obtain ⟨h1, h2⟩ := kdKS h (rdC bs s).1.toNat (rdC bs s).2 hs
  obtain ⟨h3, h4⟩ := kdC bs s h1
  exact ⟨h3, h2.trans h4⟩
theorem kdCe : Kd (fun s => (rdCe bs s).2) := ((((((kdB bs).comp (kdF bs)).comp (kdNs bs 3)).comp (kdV bs)).comp (kdF bs)).comp (kdB bs)).comp (kdT bs)
theorem kdFl : Kd (fun s => (rdFl bs s).2) := (((kdT bs).comp (kdNs bs 5)).comp (kdL bs (kdOp bs))).comp (kdL bs (kdLp bs))
theorem kdJb : Kd (fun s => (rdJb bs s).2) := ((((kdT bs).comp (kdNs bs 3)).comp (kdL bs (kdN bs))).comp (kdL bs (kdN bs))).comp (kdN bs)
theorem kdIm : Kd (fun s => (rdIm bs s).2) := (((kdT bs).comp (kdL bs (kdCe bs))).comp (kdL bs (kdFl bs))).comp (kdL bs (kdJb bs))
theorem kdEnd : Kd (rdEnd bs) := fun s h => by
  unfold rdEnd at *
  by_cases q : s.p < bs.length
  · rw [if_pos q] at *
    by_cases z : s.y = 0
    · rw [if_pos z] at h; exact absurd h (show ¬ (3 : Int) = 0 by decide)
    · rw [if_neg z] at h; exact absurd h z
  · rw [if_neg q] at *; exact ⟨h, rfl⟩
end
end Go.Proofs.YtkickdmomompjaaGreat
