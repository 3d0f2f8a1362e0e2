/- How a chart reads as an argument; no statement of the seat is proved here. -/
import Derived.Test.YtcoeinfopfcekaaSfA
import Derived.Test.YtcoeinfopfcekaaImK
import Derived.Test.YtcoeinfopfcekaaTrY
import Derived.Test.YtcoeinfopfcekaaTrZ
namespace Go.Proofs.Ytcoeinfopfcekaa
set_option linter.unusedVariables false
open Go.RowKit Go.ChangeShapes Go.WideShapes Go.ChangeAt
section
variable {H : Type} {enc : TypeId × Value → H} {w : World} {base : Nat} {spare : Nat → Bool} {held : Bool}
theorem fieldsLki : ((Try.prog.fieldsOf 34).map (fun f => (f.type, f.offset))).toList = [(3, 0), (9, 1), (3, 2), (9, 3)] := by kernel_rfl
set_option maxRecDepth 100000 in
theorem rd_Lki {fuel : Nat} {cs : List Value} {y : DataW H × List MemPlace} (h : DataW.trod enc Try.prog w base spare held fuel 34 cs = some y) (hn : cs.length = 4) (hb : Rows.uptoBulk y.1 ≤ 1048576) : ∃ r, Is lkC r cs := by
  obtain ⟨xs, m2, hm2, hx, _, hxl, hf⟩ := rd_struct (by kernel_rfl) fieldsLki h
  match cs, hn with
  | [c0, c1, c2, c3], _ =>
    match xs, hxl with
    | [y0, y1, y2, y3], _ =>
      have k0 : DataW.trod enc Try.prog w base spare held m2 3 [c0] = some y0 := hf 0 _ _ rfl
      have k1 : DataW.trod enc Try.prog w base spare held m2 9 [c1] = some y1 := hf 1 _ _ rfl
      have k2 : DataW.trod enc Try.prog w base spare held m2 3 [c2] = some y2 := hf 2 _ _ rfl
      have k3 : DataW.trod enc Try.prog w base spare held m2 9 [c3] = some y3 := hf 3 _ _ rfl
      simp only [hx, List.map_cons, List.map_nil, Rows.uptoBulk, Rows.uptoBulkAll] at hb
      obtain ⟨z0, e0, _⟩ := DataW.trod_int Try.underlying3 k0
      obtain ⟨z1, e1, _⟩ := DataW.trod_string Try.underlying9 k1
      obtain ⟨z2, e2, _⟩ := DataW.trod_int Try.underlying3 k2
      obtain ⟨z3, e3, _⟩ := DataW.trod_string Try.underlying9 k3
      simp only [List.cons.injEq, and_true] at e0 e1 e2 e3
      subst e0 e1 e2 e3
      exact ⟨⟨z0, z1, z2, z3⟩, rfl⟩
theorem fieldsSpi : ((Try.prog.fieldsOf 31).map (fun f => (f.type, f.offset))).toList = [(3, 0), (9, 1), (4, 2), (29, 3)] := by kernel_rfl
set_option maxRecDepth 100000 in
theorem rd_Spi {fuel : Nat} {cs : List Value} {y : DataW H × List MemPlace} (h : DataW.trod enc Try.prog w base spare held fuel 31 cs = some y) (hn : cs.length = 4) (hb : Rows.uptoBulk y.1 ≤ 1048576) : ∃ r, SpP (fun b => b < w.heap.size) w r cs := by
  obtain ⟨xs, m2, hm2, hx, _, hxl, hf⟩ := rd_struct (by kernel_rfl) fieldsSpi h
  match cs, hn with
  | [c0, c1, c2, c3], _ =>
    match xs, hxl with
    | [y0, y1, y2, y3], _ =>
      have k0 : DataW.trod enc Try.prog w base spare held m2 3 [c0] = some y0 := hf 0 _ _ rfl
      have k1 : DataW.trod enc Try.prog w base spare held m2 9 [c1] = some y1 := hf 1 _ _ rfl
      have k2 : DataW.trod enc Try.prog w base spare held m2 4 [c2] = some y2 := hf 2 _ _ rfl
      have k3 : DataW.trod enc Try.prog w base spare held m2 29 [c3] = some y3 := hf 3 _ _ rfl
      simp only [hx, List.map_cons, List.map_nil, Rows.uptoBulk, Rows.uptoBulkAll] at hb
      obtain ⟨z0, e0, _⟩ := DataW.trod_int Try.underlying3 k0
      obtain ⟨z1, e1, _⟩ := DataW.trod_string Try.underlying9 k1
      obtain ⟨z2, e2, _⟩ := DataW.trod_bool Try.underlying4 k2
      obtain ⟨x, l, c, rfl, q, _⟩ := rd_rows (P := Is lkC) Try.underlying29 4 (by decide) (by kernel_rfl) (fun m cs y h1 h2 h3 => rd_Lki h1 h2 h3) k3 (by omega)
      simp only [List.cons.injEq, and_true] at e0 e1 e2
      subst e0 e1 e2
      exact ⟨⟨z0, z1, z2, l⟩, x, c, rfl, q⟩
theorem fieldsTni : ((Try.prog.fieldsOf 44).map (fun f => (f.type, f.offset))).toList = [(3, 0), (9, 1), (35, 2), (35, 3), (42, 4)] := by kernel_rfl
set_option maxRecDepth 100000 in
theorem rd_Tni {fuel : Nat} {cs : List Value} {y : DataW H × List MemPlace} (h : DataW.trod enc Try.prog w base spare held fuel 44 cs = some y) (hn : cs.length = 18) (hb : Rows.uptoBulk y.1 ≤ 1048576) : ∃ r, TnP 69906 (fun b => b < w.heap.size) w r cs := by
  obtain ⟨xs, m2, hm2, hx, _, hxl, hf⟩ := rd_struct (by kernel_rfl) fieldsTni h
  match cs, hn with
  | [c0, c1, c2, c3, c4, c5, c6, c7, c8, c9, c10, c11, c12, c13, c14, c15, c16, c17], _ =>
    match xs, hxl with
    | [y0, y1, y2, y3, y4], _ =>
      have k0 : DataW.trod enc Try.prog w base spare held m2 3 [c0] = some y0 := hf 0 _ _ rfl
      have k1 : DataW.trod enc Try.prog w base spare held m2 9 [c1] = some y1 := hf 1 _ _ rfl
      have k2 : DataW.trod enc Try.prog w base spare held m2 35 [c2] = some y2 := hf 2 _ _ rfl
      have k3 : DataW.trod enc Try.prog w base spare held m2 35 [c3] = some y3 := hf 3 _ _ rfl
      have k4 : DataW.trod enc Try.prog w base spare held m2 42 [c4, c5, c6, c7, c8, c9, c10, c11, c12, c13, c14, c15, c16, c17] = some y4 := hf 4 _ _ rfl
      simp only [hx, List.map_cons, List.map_nil, Rows.uptoBulk, Rows.uptoBulkAll] at hb
      obtain ⟨ys, m3, _, hx3, _, hxl3, hf3⟩ := rd_struct (by kernel_rfl) fieldsE k4
      match ys, hxl3 with
      | [g0, g1, g2, g3, g4, g5, g6, g7, g8, g9, g10, g11], _ =>
        have l0 : DataW.trod enc Try.prog w base spare held m3 3 [c4] = some g0 := hf3 0 _ _ rfl
        have l1 : DataW.trod enc Try.prog w base spare held m3 3 [c5] = some g1 := hf3 1 _ _ rfl
        have l2 : DataW.trod enc Try.prog w base spare held m3 9 [c6] = some g2 := hf3 2 _ _ rfl
        have l3 : DataW.trod enc Try.prog w base spare held m3 9 [c7] = some g3 := hf3 3 _ _ rfl
        have l4 : DataW.trod enc Try.prog w base spare held m3 39 [c8, c9, c10] = some g4 := hf3 4 _ _ rfl
        have l5 : DataW.trod enc Try.prog w base spare held m3 40 [c11] = some g5 := hf3 5 _ _ rfl
        have l6 : DataW.trod enc Try.prog w base spare held m3 35 [c12] = some g6 := hf3 6 _ _ rfl
        have l7 : DataW.trod enc Try.prog w base spare held m3 36 [c13] = some g7 := hf3 7 _ _ rfl
        have l8 : DataW.trod enc Try.prog w base spare held m3 3 [c14] = some g8 := hf3 8 _ _ rfl
        have l9 : DataW.trod enc Try.prog w base spare held m3 3 [c15] = some g9 := hf3 9 _ _ rfl
        have l10 : DataW.trod enc Try.prog w base spare held m3 3 [c16] = some g10 := hf3 10 _ _ rfl
        have l11 : DataW.trod enc Try.prog w base spare held m3 3 [c17] = some g11 := hf3 11 _ _ rfl
        obtain ⟨xs4, m4, _, hx4, _, hl4, hf4⟩ := rd_struct (by kernel_rfl) fieldsV l4
        match xs4, hl4 with
        | [u0, u1, u2], _ =>
          have j0 : DataW.trod enc Try.prog w base spare held m4 36 [c8] = some u0 := hf4 0 _ _ rfl
          have j1 : DataW.trod enc Try.prog w base spare held m4 37 [c9] = some u1 := hf4 1 _ _ rfl
          have j2 : DataW.trod enc Try.prog w base spare held m4 9 [c10] = some u2 := hf4 2 _ _ rfl
          simp only [hx3, List.map_cons, List.map_nil, Rows.uptoBulk, Rows.uptoBulkAll] at hb
          obtain ⟨x1, l1', q1, rfl, n1, f1⟩ := rd_texts k2 (by omega)
          obtain ⟨x2, l2', q2, rfl, n2, f2⟩ := rd_texts k3 (by omega)
          obtain ⟨x3, kl, q3, rfl, n3⟩ := rd_exprs m3 _ g5 69906 l5 (by omega) (by omega)
          obtain ⟨x4, ns, q4, rfl, n4, f4⟩ := rd_texts l6 (by omega)
          obtain ⟨a0, d0, _⟩ := DataW.trod_int Try.underlying3 k0
          obtain ⟨a1, d1, _⟩ := DataW.trod_string Try.underlying9 k1
          obtain ⟨z0, e0, _⟩ := DataW.trod_int Try.underlying3 l0
          obtain ⟨z1, e1, _⟩ := DataW.trod_int Try.underlying3 l1
          obtain ⟨z2, e2, _⟩ := DataW.trod_string Try.underlying9 l2
          obtain ⟨z3, e3, _⟩ := DataW.trod_string Try.underlying9 l3
          obtain ⟨z4, e4, _⟩ := DataW.trod_int Try.underlying36 j0
          obtain ⟨z5, e5, _⟩ := DataW.trod_int Try.underlying37 j1
          obtain ⟨z6, e6, _⟩ := DataW.trod_string Try.underlying9 j2
          obtain ⟨z9, e9, _⟩ := DataW.trod_int Try.underlying36 l7
          obtain ⟨z10, e10, _⟩ := DataW.trod_int Try.underlying3 l8
          obtain ⟨z11, e11, _⟩ := DataW.trod_int Try.underlying3 l9
          obtain ⟨z12, e12, _⟩ := DataW.trod_int Try.underlying3 l10
          obtain ⟨z13, e13, _⟩ := DataW.trod_int Try.underlying3 l11
          simp only [List.cons.injEq, and_true] at d0 d1 e0 e1 e2 e3 e4 e5 e6 e9 e10 e11 e12 e13
          subst d0 d1 e0 e1 e2 e3 e4 e5 e6 e9 e10 e11 e12 e13
          exact ⟨⟨a0, a1, l1', l2', ⟨z0, z1, z2, z3, z4, z5, z6, z9, z10, z11, z12, z13⟩, ns, kl⟩, x1, q1, x2, q2, x3, q3, x4, q4, rfl, ⟨n1, f1⟩, ⟨n2, f2⟩, n3, n4, f4⟩
theorem fieldsAci : ((Try.prog.fieldsOf 49).map (fun f => (f.type, f.offset))).toList = [(3, 0), (9, 1), (47, 2)] := by kernel_rfl
set_option maxRecDepth 100000 in
theorem rd_Aci {fuel : Nat} {cs : List Value} {y : DataW H × List MemPlace} (h : DataW.trod enc Try.prog w base spare held fuel 49 cs = some y) (hn : cs.length = 3) (hb : Rows.uptoBulk y.1 ≤ 1048576) : ∃ r, AcP 69906 (fun b => b < w.heap.size) w r cs := by
  obtain ⟨xs, m2, hm2, hx, _, hxl, hf⟩ := rd_struct (by kernel_rfl) fieldsAci h
  match cs, hn with
  | [c0, c1, c2], _ =>
    match xs, hxl with
    | [y0, y1, y2], _ =>
      have k0 : DataW.trod enc Try.prog w base spare held m2 3 [c0] = some y0 := hf 0 _ _ rfl
      have k1 : DataW.trod enc Try.prog w base spare held m2 9 [c1] = some y1 := hf 1 _ _ rfl
      have k2 : DataW.trod enc Try.prog w base spare held m2 47 [c2] = some y2 := hf 2 _ _ rfl
      simp only [hx, List.map_cons, List.map_nil, Rows.uptoBulk, Rows.uptoBulkAll] at hb
      obtain ⟨z0, e0, _⟩ := DataW.trod_int Try.underlying3 k0
      obtain ⟨z1, e1, _⟩ := DataW.trod_string Try.underlying9 k1
      obtain ⟨x, l, c, rfl, q⟩ := rd_stmts m2 c2 y2 69906 k2 (by omega) (by omega)
      simp only [List.cons.injEq, and_true] at e0 e1
      subst e0 e1
      exact ⟨⟨z0, z1, l⟩, x, c, rfl, q⟩
theorem fieldsChi : ((Try.prog.fieldsOf 26).map (fun f => (f.type, f.offset))).toList = [(22, 0), (23, 1), (24, 2)] := by kernel_rfl
set_option maxRecDepth 100000 in
theorem rd_Chi {fuel : Nat} {cs : List Value} {y : DataW H × List MemPlace} (h : DataW.trod enc Try.prog w base spare held fuel 26 cs = some y) (hn : cs.length = 3) (hb : Rows.uptoBulk y.1 ≤ 1048576) : ∃ (m : ChR) (x1 x2 x3 : Option Addr) (c1 c2 c3 : Nat), cs = [.slice x1 m.ss.length c1, .slice x2 m.ts.length c2, .slice x3 m.ac.length c3] ∧ ChQ (fun b => b < w.heap.size) 69906 w m x1 x2 x3 := by
  obtain ⟨xs, m2, hm2, hx, _, hxl, hf⟩ := rd_struct (by kernel_rfl) fieldsChi h
  match cs, hn with
  | [c0, c1, c2], _ =>
    match xs, hxl with
    | [y0, y1, y2], _ =>
      have k0 : DataW.trod enc Try.prog w base spare held m2 22 [c0] = some y0 := hf 0 _ _ rfl
      have k1 : DataW.trod enc Try.prog w base spare held m2 23 [c1] = some y1 := hf 1 _ _ rfl
      have k2 : DataW.trod enc Try.prog w base spare held m2 24 [c2] = some y2 := hf 2 _ _ rfl
      simp only [hx, List.map_cons, List.map_nil, Rows.uptoBulk, Rows.uptoBulkAll] at hb
      obtain ⟨x1, l1, p1, rfl, q1, _⟩ := rd_rows (P := SpP (fun b => b < w.heap.size) w) Try.underlying22 4 (by decide) (by kernel_rfl) (fun m cs y h1 h2 h3 => rd_Spi h1 h2 h3) k0 (by omega)
      obtain ⟨x2, l2, p2, rfl, q2, _⟩ := rd_rows (P := TnP 69906 (fun b => b < w.heap.size) w) Try.underlying23 18 (by decide) (by kernel_rfl) (fun m cs y h1 h2 h3 => rd_Tni h1 h2 h3) k1 (by omega)
      obtain ⟨x3, l3, p3, rfl, q3, _⟩ := rd_rows (P := AcP 69906 (fun b => b < w.heap.size) w) Try.underlying24 3 (by decide) (by kernel_rfl) (fun m cs y h1 h2 h3 => rd_Aci h1 h2 h3) k2 (by omega)
      exact ⟨⟨l1, l2, l3⟩, x1, x2, x3, p1, p2, p3, rfl, q1, q2, q3⟩
end
/-- A chart is the same as itself. -/
theorem smCh_refl {S : Nat → Prop} {d : Nat} {w : World} {m : ChR} {x1 x2 x3 : Option Addr} (h : ChQ S d w m x1 x2 x3) : smCh d m m = true := by
  have h1 : smL smSp m.ss m.ss = true := smL_refl _ _ fun i e he => by
    have : smL smLk e.ls e.ls = true := smL_refl _ _ fun i e he => by simp [smLk]
    simp [smSp, this]
  have h2 : smL (smTn d) m.ts m.ts = true := smL_refl _ _ fun i e he => by
    obtain ⟨vs, x1, c1, x2, c2, x3, c3, x4, c4, _, q⟩ := h.2.1.each e (List.mem_of_getElem? he)
    have := kd_refl q.2.2.1
    simp [smTn, TnR.cd, smE, hdS, this]
  have h3 : smL (smAc d) m.ac m.ac = true := smL_refl _ _ fun i e he => by
    obtain ⟨vs, x, c, _, q⟩ := h.2.2.each e (List.mem_of_getElem? he)
    have := st_refl q
    simp [smAc, this]
  simp [smCh, h1, h2, h3]
end Go.Proofs.Ytcoeinfopfcekaa
