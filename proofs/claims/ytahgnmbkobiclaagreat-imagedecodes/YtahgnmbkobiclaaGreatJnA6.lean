/- image: the first cell that may not be; no statement of the seat is proved here. -/
import Derived.Test.YtahgnmbkobiclaaGreatCkCJ
import Derived.Test.YtahgnmbkobiclaaGreatJnA5
import Derived.Deep.RegionHeld3
import Derived.Test.YtahgnmbkobiclaaGreatJnA2
import Derived.Maps.OwnSet
import Derived.Maps.Views
namespace Go.Proofs.YtahgnmbkobiclaaGreat
set_option linter.unusedVariables false
open Go.RowKit
theorem eqNw (k b : Int) (s : ByteArray) (w : World) : (binOp .eql 48 (.agg #[.int .u8 k, .int .u64 b, .string s]) (.agg #[.int .u8 20, .int .u64 0, .string ⟨#[]⟩])).run Tryz.prog w = .ok (.bool (nwB k b s)) w := by
  unfold nwB emB
  by_cases h1 : k = 20
  · subst h1
    by_cases h2 : b = 0
    · subst h2
      by_cases h3 : s.toList = []
      · simp [go_sem, h3]
      · simp [go_sem, h3]
    · simp [go_sem, h2]
  · simp [go_sem, h1]
theorem blk_in {c : World} {g : Nat} {o : Obj} (h : c.heap[g]? = some o) : g < c.heap.size := (Array.getElem?_eq_some_iff.1 h).1
set_option maxHeartbeats 4000000 in
theorem mayBegin_of (c : CeR) (h : CeOk c) (w : World) : Calls Tryz.prog 99 #[CeV c] w fun e w' => e = .returned (.bool (bgB c)) ∧ Below w.heap.size w w' := by
  obtain ⟨h1, h2, h3, h4, h5, h6, h7, h8, h9⟩ := h
  have g2 := wf_i64 h2
  have g3 := wf_i64 h3
  have g5 := wf_u8 h5
  have g6 := wf_u64 h6
  have g7 := sh_max h7
  clear h1 h2 h3 h4 h5 h6 h7 h8 h9
  obtain ⟨kd, sb, lo, hi, mx, ik, ib, is, kp, dr, ad⟩ := c
  simp only at g2 g3 g5 g6 g7
  unfold bgB
  simp only
  have F1 : Hid (∀ W, Calls Tryz.prog 128 #[.agg #[.int .u8 kd, .bool sb, .int .i64 lo, .int .i64 hi, .int .i64 mx, .bool false, .int .i64 0, .int .i64 0, .string ⟨#[]⟩], .agg #[.int .u8 ik, .int .u64 ib, .string is]] W fun e w' => e = .returned (.int .i64 (fitsF ik ib is kd sb lo hi mx)) ∧ Below W.heap.size W w') := fun W => Fits_of kd sb lo hi mx false 0 0 ⟨#[]⟩ ik ib is W g6.1 g6.2 g5 g7 g2 g3
  clear g2 g3 g5 g6 g7
  by_cases q : kd = 20
  · subst q
    rw [if_pos rfl]
    have ev := eqNw ik ib is
    generalize nwB ik ib is = r at *
    go_enter Tryz.func99, Tryz.ntmps99
    go_wp2_with fail
    obtain ⟨AW, eW⟩ : ∃ AW, AW = w.alloc (.cells #[.int .u8 20, .bool sb, .int .i64 lo, .int .i64 hi, .int .i64 mx, .int .u8 ik, .int .u64 ib, .string is, .bool kp, .int .i64 dr, .string ad] 50 (0, 0)) := ⟨_, rfl⟩
    have AX : AW.heap[w.heap.size]? = some (.cells #[.int .u8 20, .bool sb, .int .i64 lo, .int .i64 hi, .int .i64 mx, .int .u8 ik, .int .u64 ib, .string is, .bool kp, .int .i64 dr, .string ad] 50 (0, 0)) := by rw [eW]; exact heap_alloc_last _ _
    have AB : Hid (Below w.heap.size w AW) := by rw [eW]; exact (Below.refl _ _).alloc (Nat.le_refl _) _
    rw [← eW]
    clear eW
    have zl := blk_in AX
    have c5 : ∀ y : Sub AW, y.w.cell? ⟨w.heap.size, 5, none⟩ = some (.int .u8 ik) := fun y => (y.h.cell (p := ⟨w.heap.size, 5, none⟩) zl).trans (by simp [World.cell?, AX])
    have c6 : ∀ y : Sub AW, y.w.cell? ⟨w.heap.size, 6, none⟩ = some (.int .u64 ib) := fun y => (y.h.cell (p := ⟨w.heap.size, 6, none⟩) zl).trans (by simp [World.cell?, AX])
    have c7 : ∀ y : Sub AW, y.w.cell? ⟨w.heap.size, 7, none⟩ = some (.string is) := fun y => (y.h.cell (p := ⟨w.heap.size, 7, none⟩) zl).trans (by simp [World.cell?, AX])
    have N1 : Hid (∀ y : Sub AW, Calls Tryz.prog 127 #[] y.w fun e w' => e = .returned (.agg #[.int .u8 20, .int .u64 0, .string ⟨#[]⟩]) ∧ Below y.w.heap.size y.w w') := fun y => nowhere_of y.w
    clear AX
    refine wp_region_sub2 (by kernel_rfl) (by kernel_rfl) ?_
    intro cx
    clear cx
    repeat (first | go_big_quiet_skip | (go_big_quiet_want; go_big_quiet_op; first | go_big_quiet_on | (refine ⟨_, fun _ => rfl, ?_⟩; go_big_quiet_on) | go_big_quiet_call (first | (go_at_call 127; exact calls_sub (N1.out _)))))
    refine wpQuiet_nil ?_
    rintro _ ⟨y, rfl⟩
    have Y : Hid (Below w.heap.size w y.w) := bl_tr AB.out y.h
    clear c5 c6 c7 N1 zl ev
    go_wp2
    go_ret
    exact ⟨rfl, Y.out⟩
  · rw [if_neg q]
    have p : (kd == 20) = false := by simp [q]
    clear q
    generalize hz : fitsF ik ib is kd sb lo hi mx = z at *
    by_cases z0 : z = 0
    · subst z0
      go_enter Tryz.func99, Tryz.ntmps99
      go_wp2_with fail
      refine (F1.out _).mono ?_
      rintro e w1 ⟨rfl, hb⟩
      have B1 : Hid (Below w.heap.size w w1) := bl_tr (by go_grown) hb
      clear hb
      go_wp2
      go_ret
      exact ⟨rfl, B1.out⟩
    · have z1 : (z == 0) = false := by simp [z0]
      rw [decide_eq_false z0]
      clear z0
      go_enter Tryz.func99, Tryz.ntmps99
      go_wp2_with fail
      refine (F1.out _).mono ?_
      rintro e w1 ⟨rfl, hb⟩
      have B1 : Hid (Below w.heap.size w w1) := bl_tr (by go_grown) hb
      clear hb
      go_wp2
      go_ret
      exact ⟨rfl, B1.out⟩
set_option maxHeartbeats 4000000 in
theorem mayLie_of (c : CeR) (h : CeOk c) (hk : 1 ≤ c.kd ∧ c.kd ≤ 20) (w : World) : Calls Tryz.prog 100 #[CeV c] w fun e w' => e = .returned (.bool (liB c)) ∧ Below w.heap.size w w' := by
  have g9 := sh_max h.2.2.2.2.2.2.2.2
  clear h
  obtain ⟨kd, sb, lo, hi, mx, ik, ib, is, kp, dr, ad⟩ := c
  simp only at g9 hk
  unfold liB adB
  simp only
  have H1 : Hid (∀ W, Calls Tryz.prog 101 #[.agg #[.int .i64 0, .int .i64 2], .int .i64 dr] W fun e w' => e = .returned (.bool (inB 0 2 dr)) ∧ Below W.heap.size W w') := fun W => has_of _ _ _ W
  have H2 : Hid (∀ W, Calls Tryz.prog 129 #[.string ad] W fun e w' => e = .returned (addrV ad) ∧ Below W.heap.size W w') := fun W => IsAddr_of ad W g9
  have H3 : Hid (∀ W, Calls Tryz.prog 130 #[.int .u8 kd] W fun e w' => e = .returned (.int .i64 (wdK kd)) ∧ w' = W) := fun W => widthI_of kd hk W
  clear g9 hk
  generalize inB 0 2 dr = r1 at *
  cases r1
  · rw [Bool.false_and]
    go_enter Tryz.func100, Tryz.ntmps100
    go_wp2_with fail
    refine (H1.out _).mono ?_
    rintro e w1 ⟨rfl, hb⟩
    have B1 : Hid (Below w.heap.size w w1) := bl_tr (by go_grown) hb
    clear hb
    go_wp2
    go_ret
    exact ⟨rfl, B1.out⟩
  cases q : emB ad
  case true =>
    have q1 : ad.toList.isEmpty = true := q
    rw [if_pos rfl]
    clear q
    by_cases d0 : dr = 0
    · subst d0
      go_enter Tryz.func100, Tryz.ntmps100
      go_wp2_with fail
      refine (H1.out _).mono ?_
      rintro e w1 ⟨rfl, hb⟩
      have B1 : Hid (Below w.heap.size w w1) := bl_tr (by go_grown) hb
      have X1 := (hb.block w.heap.size (by simp)).trans (heap_alloc_last w _)
      have k9 : w1.cell? ⟨w.heap.size, 9, none⟩ = some (.int .i64 0) := by simp [World.cell?, X1]
      have k10 : w1.cell? ⟨w.heap.size, 10, none⟩ = some (.string ad) := by simp [World.cell?, X1]
      clear hb X1
      go_wp2
      go_ret
      exact ⟨rfl, B1.out⟩
    · have d1 : (dr == 0) = false := by simp [d0]
      rw [decide_eq_false d0]
      clear d0
      go_enter Tryz.func100, Tryz.ntmps100
      go_wp2_with fail
      refine (H1.out _).mono ?_
      rintro e w1 ⟨rfl, hb⟩
      have B1 : Hid (Below w.heap.size w w1) := bl_tr (by go_grown) hb
      have X1 := (hb.block w.heap.size (by simp)).trans (heap_alloc_last w _)
      have k9 : w1.cell? ⟨w.heap.size, 9, none⟩ = some (.int .i64 dr) := by simp [World.cell?, X1]
      have k10 : w1.cell? ⟨w.heap.size, 10, none⟩ = some (.string ad) := by simp [World.cell?, X1]
      clear hb X1
      go_wp2
      go_ret
      exact ⟨rfl, B1.out⟩
  case false =>
    have q1 : ad.toList.isEmpty = false := q
    rw [if_neg (by simp)]
    clear q
    unfold addrV at H2
    generalize addrB ad = ra at *
    generalize dirN (byt ad 1) = D at *
    generalize bitN (byt ad 2) = N at *
    generalize wdK kd = wk at *
    cases ra
    · rw [Bool.false_and, Bool.false_and, Bool.false_and]
      simp only [if_neg Bool.false_ne_true] at H2
      go_enter Tryz.func100, Tryz.ntmps100
      go_wp2_with fail
      refine (H1.out _).mono ?_
      rintro e w1 ⟨rfl, hb⟩
      have B1 : Hid (Below w.heap.size w w1) := bl_tr (by go_grown) hb
      have X1 := (hb.block w.heap.size (by simp)).trans (heap_alloc_last w _)
      have XX : Hid _ := X1
      have z1 : w.heap.size < w1.heap.size := blk_in X1
      have k10 : w1.cell? ⟨w.heap.size, 10, none⟩ = some (.string ad) := by simp [World.cell?, X1]
      clear hb X1
      go_wp2_with fail
      refine (H2.out _).mono ?_
      rintro e w2 ⟨rfl, hb⟩
      have B2 : Hid (Below w.heap.size w w2) := bl_tr B1.out hb
      have X2 := (hb.block w.heap.size z1).trans XX.out
      have k0 : w2.cell? ⟨w.heap.size, 0, none⟩ = some (.int .u8 kd) := by simp [World.cell?, X2]
      have k1 : w2.cell? ⟨w.heap.size, 1, none⟩ = some (.bool sb) := by simp [World.cell?, X2]
      have k9 : w2.cell? ⟨w.heap.size, 9, none⟩ = some (.int .i64 dr) := by simp [World.cell?, X2]
      clear hb X2 k10 XX
      go_wp2
      go_ret
      exact ⟨rfl, B2.out⟩
    simp only [if_pos] at H2
    by_cases d0 : D = dr
    case neg =>
      have d1 : (D == dr) = false := by simp [d0]
      rw [decide_eq_false d0]
      clear d0
      go_enter Tryz.func100, Tryz.ntmps100
      go_wp2_with fail
      refine (H1.out _).mono ?_
      rintro e w1 ⟨rfl, hb⟩
      have B1 : Hid (Below w.heap.size w w1) := bl_tr (by go_grown) hb
      have X1 := (hb.block w.heap.size (by simp)).trans (heap_alloc_last w _)
      have XX : Hid _ := X1
      have z1 : w.heap.size < w1.heap.size := blk_in X1
      have k10 : w1.cell? ⟨w.heap.size, 10, none⟩ = some (.string ad) := by simp [World.cell?, X1]
      clear hb X1
      go_wp2_with fail
      refine (H2.out _).mono ?_
      rintro e w2 ⟨rfl, hb⟩
      have B2 : Hid (Below w.heap.size w w2) := bl_tr B1.out hb
      have X2 := (hb.block w.heap.size z1).trans XX.out
      have k0 : w2.cell? ⟨w.heap.size, 0, none⟩ = some (.int .u8 kd) := by simp [World.cell?, X2]
      have k1 : w2.cell? ⟨w.heap.size, 1, none⟩ = some (.bool sb) := by simp [World.cell?, X2]
      have k9 : w2.cell? ⟨w.heap.size, 9, none⟩ = some (.int .i64 dr) := by simp [World.cell?, X2]
      clear hb X2 k10 XX
      go_wp2
      go_ret
      exact ⟨rfl, B2.out⟩
    subst d0
    rw [decide_eq_true rfl]
    by_cases n0 : N = wk
    case neg =>
      have n1 : (N == wk) = false := by simp [n0]
      rw [decide_eq_false n0]
      clear n0
      go_enter Tryz.func100, Tryz.ntmps100
      go_wp2_with fail
      refine (H1.out _).mono ?_
      rintro e w1 ⟨rfl, hb⟩
      have B1 : Hid (Below w.heap.size w w1) := bl_tr (by go_grown) hb
      have X1 := (hb.block w.heap.size (by simp)).trans (heap_alloc_last w _)
      have XX : Hid _ := X1
      have z1 : w.heap.size < w1.heap.size := blk_in X1
      have k10 : w1.cell? ⟨w.heap.size, 10, none⟩ = some (.string ad) := by simp [World.cell?, X1]
      clear hb X1
      go_wp2_with fail
      refine (H2.out _).mono ?_
      rintro e w2 ⟨rfl, hb⟩
      have B2 : Hid (Below w.heap.size w w2) := bl_tr B1.out hb
      have X2 := (hb.block w.heap.size z1).trans XX.out
      have k0 : w2.cell? ⟨w.heap.size, 0, none⟩ = some (.int .u8 kd) := by simp [World.cell?, X2]
      have k1 : w2.cell? ⟨w.heap.size, 1, none⟩ = some (.bool sb) := by simp [World.cell?, X2]
      have k9 : w2.cell? ⟨w.heap.size, 9, none⟩ = some (.int .i64 D) := by simp [World.cell?, X2]
      clear hb X2 k10 XX
      go_wp2_with fail
      refine (H3.out _).mono ?_
      rintro e w3 ⟨rfl, rfl⟩
      go_wp2
      go_ret
      exact ⟨by simp, B2.out⟩
    subst n0
    rw [decide_eq_true rfl]
    go_enter Tryz.func100, Tryz.ntmps100
    go_wp2_with fail
    refine (H1.out _).mono ?_
    rintro e w1 ⟨rfl, hb⟩
    have B1 : Hid (Below w.heap.size w w1) := bl_tr (by go_grown) hb
    have X1 := (hb.block w.heap.size (by simp)).trans (heap_alloc_last w _)
    have XX : Hid _ := X1
    have z1 : w.heap.size < w1.heap.size := blk_in X1
    have k10 : w1.cell? ⟨w.heap.size, 10, none⟩ = some (.string ad) := by simp [World.cell?, X1]
    clear hb X1
    go_wp2_with fail
    refine (H2.out _).mono ?_
    rintro e w2 ⟨rfl, hb⟩
    have B2 : Hid (Below w.heap.size w w2) := bl_tr B1.out hb
    have X2 := (hb.block w.heap.size z1).trans XX.out
    have k0 : w2.cell? ⟨w.heap.size, 0, none⟩ = some (.int .u8 kd) := by simp [World.cell?, X2]
    have k1 : w2.cell? ⟨w.heap.size, 1, none⟩ = some (.bool sb) := by simp [World.cell?, X2]
    have k9 : w2.cell? ⟨w.heap.size, 9, none⟩ = some (.int .i64 D) := by simp [World.cell?, X2]
    clear hb X2 k10 XX
    go_wp2_with fail
    refine (H3.out _).mono ?_
    rintro e w3 ⟨rfl, rfl⟩
    go_wp2
    go_ret
    exact ⟨by simp, B2.out⟩
end Go.Proofs.YtahgnmbkobiclaaGreat
namespace Go.Proofs.YtahgnmbkobiclaaGreat
set_option linter.unusedVariables false
set_option linter.unusedSimpArgs false
open Go.RowKit
theorem imageM (g kb o c : Nat) (bs : List Nat) (s : RS) (w : World) (h : Rd g kb o c bs s w) : Calls Tryz.prog 21 #[.pointer (some ⟨g, 0, none⟩)] w fun e w' => (∃ x1 c1 x2 c2 x3 c3, e = .returned (.agg #[.string (rdIm bs s).1.nm, .slice x1 (rdIm bs s).1.cs.length c1, .slice x2 (rdIm bs s).1.fs.length c2, .slice x3 (rdIm bs s).1.js.length c3]) ∧ ImQ (Fresh w.heap.size w'.heap.size) w' (rdIm bs s).1 x1 x2 x3) ∧ Rd g kb o c bs (rdIm bs s).2 w' ∧ w.grownBy w' (some g) :=
  (imageG g kb o c bs s (kimA bs s) (kimB bs s) (kimD bs s) (rdIm bs s).2 _ _ _ _ (txtM g kb o c bs s) (RlC g kb o c bs (rdCe bs) (cellM g kb o c bs) _) (RlF g kb o c bs (rdFl bs) (codeM g kb o c bs) _) (RlJ g kb o c bs (rdJb bs) (jobM g kb o c bs) _) w h).mono
    fun e w' ⟨⟨y1, c1, y2, c2, y3, c3, he, q1, q2, q3⟩, h1, g1⟩ => ⟨⟨y1, c1, y2, c2, y3, c3, he, q1, q2, q3⟩, h1, g1⟩
/-- Behind an image's end there must be nothing. -/
def rdEnd (bs : List Nat) (s : RS) : RS := if s.p < bs.length then (if s.y = 0 then ⟨s.p, s.p, 3⟩ else s) else s
theorem RdAt.mk' {g : Nat} {x : Option Addr} {n c p : Nat} {a y : Int} {V : World} (h : V.heap[g]? = some (.cells #[.slice x n c, .int .i64 p, .int .i64 a, .int .i64 y] 64 (0, 0))) : RdAt g x n c p a y V := h
theorem results_cell_row_2 {P : Program} {fn : Func} {p u v : Tmp} {ty : TypeId} (h : fn.results = #[.cell p ty, .tmp u, .tmp v]) (tmps : Array Value) (w : World) (g : Nat) (t : TypeId) (cs : Array Value) (fr : Nat × Nat) (d : TypeDesc)
    (hp : tmps.getD p undef = .pointer (some ⟨g, 0, none⟩)) (hg : w.heap[g]? = some (.cells cs t fr))
    (hu : P.underlying ty = some d) (hd : (match d with | .struct _ | .array _ _ => true | _ => false) = true) (hi : (P.info? ty).map (·.size) = some cs.size) :
    (results fn tmps).run P w = .ok (.tuple #[.agg cs, tmps.getD u undef, tmps.getD v undef]) w := by
  have hp' : tmps[p]?.getD undef = .pointer (some ⟨g, 0, none⟩) := by simpa using hp
  simp [results, h, hp', asAddr, run_loadVar_row w g t ty cs fr d hg hu hd hi, Sem.run_bind, Result.andThen]
theorem row_below_d {w V : World} {G : Nat} (h : Below w.heap.size w V) (hG : w.heap.size ≤ G) (vs : Array Value) : Below w.heap.size w (V.setRow G vs) :=
  h.trans ⟨rfl, rfl, rfl, by simp [World.setRow], fun k hk => setRow_other _ _ _ _ (by omega)⟩
theorem gb_below {w V V' : World} {g : Nat} (h : w.heap.size ≤ g) (hb : Below w.heap.size w V) (hg : V.grownBy V' (some g)) : Below w.heap.size w V' :=
  hb.trans ⟨hg.os, hg.tape, hg.output, hg.size, fun k hk => hg.block k (Nat.lt_of_lt_of_le hk hb.size) (fun e => by cases e; omega)⟩
set_option maxRecDepth 20000 in
set_option maxHeartbeats 8000000 in
theorem readX (kb o c : Nat) (bs : List Nat) (w : World) (hB : ByAt kb o bs w) (h4 : 4 ≤ bs.length) (hn : bs.length ≤ 4194304) (hc : bs.length < c) (hk : kb < w.heap.size) (h8 : ∀ v ∈ bs, v < 256) :
    Calls Tryz.prog 11 #[.slice (some ⟨kb, o, none⟩) bs.length c] w fun e w' => (∃ x1 c1 x2 c2 x3 c3, e = .returned (.tuple #[.agg #[.string (rdIm bs ⟨4, 0, 0⟩).1.nm, .slice x1 (rdIm bs ⟨4, 0, 0⟩).1.cs.length c1, .slice x2 (rdIm bs ⟨4, 0, 0⟩).1.fs.length c2, .slice x3 (rdIm bs ⟨4, 0, 0⟩).1.js.length c3], .int .i64 (rdEnd bs (rdIm bs ⟨4, 0, 0⟩).2).a, .int .i64 (rdEnd bs (rdIm bs ⟨4, 0, 0⟩).2).y]) ∧ ImQ (Fresh w.heap.size w'.heap.size) w' (rdIm bs ⟨4, 0, 0⟩).1 x1 x2 x3) ∧ Below w.heap.size w w' := by
  have IM : Hid (∀ g W, Rd g kb o c bs ⟨4, 0, 0⟩ W → Calls Tryz.prog 21 #[.pointer (some ⟨g, 0, none⟩)] W fun e w' => (∃ x1 c1 x2 c2 x3 c3, e = .returned (.agg #[.string (rdIm bs ⟨4, 0, 0⟩).1.nm, .slice x1 (rdIm bs ⟨4, 0, 0⟩).1.cs.length c1, .slice x2 (rdIm bs ⟨4, 0, 0⟩).1.fs.length c2, .slice x3 (rdIm bs ⟨4, 0, 0⟩).1.js.length c3]) ∧ ImQ (Fresh W.heap.size w'.heap.size) w' (rdIm bs ⟨4, 0, 0⟩).1 x1 x2 x3) ∧ Rd g kb o c bs (rdIm bs ⟨4, 0, 0⟩).2 w' ∧ W.grownBy w' (some g)) := fun g W h => imageM g kb o c bs _ W h
  generalize (rdIm bs ⟨4, 0, 0⟩).1 = m at *
  generalize (rdIm bs ⟨4, 0, 0⟩).2 = t at *
  obtain ⟨u, eu⟩ : ∃ u, rdEnd bs t = u := ⟨_, rfl⟩
  rw [eu]
  have RE : Hid (rdEnd bs t = u) := eu
  clear eu
  obtain ⟨G, hG⟩ : ∃ G, w.heap.size = G := ⟨_, rfl⟩
  obtain ⟨AW, eW⟩ : ∃ AW, AW = w.alloc (.cells #[.string ⟨#[]⟩, .slice none 0 0, .slice none 0 0, .slice none 0 0] 28 (0, 0)) := ⟨_, rfl⟩
  obtain ⟨AR, eR⟩ : ∃ AR, AR = AW.alloc (.cells #[.slice (some ⟨kb, o, none⟩) bs.length c, .int .i64 4, .int .i64 0, .int .i64 0] 64 (0, 0)) := ⟨_, rfl⟩
  have SW : AW.heap.size = G + 1 := by rw [eW, ← hG]; simp
  have AB : Hid (Below w.heap.size w AW) := by rw [eW]; exact (Below.refl _ _).alloc (Nat.le_refl _) _
  have AX : Hid (AW.heap[G]? = some (.cells #[.string ⟨#[]⟩, .slice none 0 0, .slice none 0 0, .slice none 0 0] 28 (0, 0))) := by rw [eW, ← hG]; exact heap_alloc_last _ _
  have RX : Hid (AR.heap[G + 1]? = some (.cells #[.slice (some ⟨kb, o, none⟩) bs.length c, .int .i64 4, .int .i64 0, .int .i64 0] 64 (0, 0))) := by rw [eR, ← SW]; exact heap_alloc_last _ _
  have GR : Hid (AW.grownBy AR none) := by rw [eR]; exact gb_alloc _ _ _
  have KG : Hid (kb < G) := by show _ < _; omega
  have R0 : Hid (Rd (G + 1) kb o c bs ⟨4, 0, 0⟩ AR) := ⟨RdAt.mk' RX.out, fun j v hj => GR.out.cell ((AB.out.cell hk).trans (hB j v hj)) (by simp), h4, hn, hc, by omega, by have := GR.out.size; omega, h8⟩
  have B0 : Hid (Below w.heap.size w AR) := AB.out.trans ⟨GR.out.os, GR.out.tape, GR.out.output, GR.out.size, fun k hk => GR.out.block k (by omega) (by simp)⟩
  have X0 : Hid (AR.heap[G]? = some (.cells #[.string ⟨#[]⟩, .slice none 0 0, .slice none 0 0, .slice none 0 0] 28 (0, 0))) := (GR.out.block _ (by omega) (by simp)).trans AX.out
  have HG : Hid (w.heap.size = G) := hG
  clear AB AX RX GR hB h4 hn hc hk h8
  go_enter Tryz.func11, Tryz.ntmps11
  go_upto_region 1 with fail
  rw [← eW]
  clear eW
  go_upto_region 2 with fail
  try rw [SW]
  try rw [← eR]
  clear eR hG
  go_wp2_with (go_at_call 21; refine (IM.out _ _ R0.out).mono ?_)
  first | (rintro e w1 ⟨⟨x1, c1, x2, c2, x3, c3, he, q1⟩, h1, g1⟩; have he' := he) | (rintro e w1 x1 c1 x2 c2 x3 c3 he q1 h1 g1)
  subst he
  obtain ⟨H, hH⟩ : ∃ H, w1.heap.size = H := ⟨_, rfl⟩
  obtain ⟨W2, e2⟩ : ∃ W2, W2 = w1.alloc (.cells #[.string m.nm, .slice x1 m.cs.length c1, .slice x2 m.fs.length c2, .slice x3 m.js.length c3] 28 (0, 0)) := ⟨_, rfl⟩
  have YX : Hid (W2.heap[H]? = some (.cells #[.string m.nm, .slice x1 m.cs.length c1, .slice x2 m.fs.length c2, .slice x3 m.js.length c3] 28 (0, 0))) := by rw [e2, ← hH]; exact heap_alloc_last _ _
  have S1 := g1.size
  have SR : Hid (G + 2 ≤ AR.heap.size) := by have := blk_in' R0.out.at_; show _ ≤ _; omega
  have HL : Hid (G + 2 ≤ H) := by have := SR.out; show _ ≤ _; omega
  have G2 : Hid (w1.grownBy W2 none) := by rw [e2]; exact gb_alloc _ _ _
  have R2 : Hid (Rd (G + 1) kb o c bs t W2) := h1.other G2.out h1.lt
  have B1 : Hid (Below w.heap.size w w1) := gb_below (by have := HG.out; omega) B0.out g1
  have B2 : Hid (Below w.heap.size w W2) := B1.out.trans ⟨G2.out.os, G2.out.tape, G2.out.output, G2.out.size, fun k hk => G2.out.block k (by have := B1.out.size; omega) (by simp)⟩
  have X2 : Hid (W2.heap[G]? = some (.cells #[.string ⟨#[]⟩, .slice none 0 0, .slice none 0 0, .slice none 0 0] 28 (0, 0))) := (G2.out.block G (by have := HL.out; omega) (by simp)).trans ((g1.block G (by have := SR.out; omega) (by simp)).trans X0.out)
  have Q2 : Hid (ImQ (Fresh (G + 2) H) W2 m x1 x2 x3) := (q1.sub (up_sub' SR.out (by omega))).fr (fun q hq => World.cell?_of_block (G2.out.block _ (by have := hq.2; omega) (by simp)))
  clear q1 h1 g1 R0 B0 X0 B1 IM G2 S1 SR
  go_upto_region 3 with fail
  rw [← e2]
  clear e2 hH
  obtain ⟨p, a, y⟩ := t
  have RX : Hid (W2.heap[G + 1]? = some (.cells #[.slice (some ⟨kb, o, none⟩) bs.length c, .int .i64 p, .int .i64 a, .int .i64 y] 64 (0, 0))) := R2.out.at_
  have LE : Hid (p ≤ bs.length) := R2.out.le
  obtain ⟨d0, d1, d2, d3⟩ := R2.out.at_.cs
  by_cases hp : p < bs.length
  · have hp' : (p : Int) < bs.length := by omega
    have FX : Hid (Calls Tryz.prog 22 #[.pointer (some ⟨G + 1, 0, none⟩), .int .i64 p, .int .i64 3] W2 fun e w' => e = .returned (.tuple #[]) ∧ RdAt (G + 1) (some ⟨kb, o, none⟩) bs.length c p (if y = 0 then (p : Int) else a) (if y = 0 then 3 else y) w' ∧ W2.grownBy w' (some (G + 1))) := failX (G + 1) _ _ _ p a y p 3 W2 R2.out.at_
    have UV : Hid (u.a = (if y = 0 then (p : Int) else a) ∧ u.y = (if y = 0 then 3 else y)) := by
      have q := RE.out
      unfold rdEnd at q
      rw [if_pos (show (⟨p, a, y⟩ : RS).p < bs.length from hp)] at q
      show _ ∧ _
      rw [← q]
      by_cases z : y = 0 <;> simp [z]
    generalize (if y = 0 then (p : Int) else a) = a2 at *
    generalize (if y = 0 then (3 : Int) else y) = y2 at *
    clear hp
    go_upto_region 4 with fail
    go_wp2_with (go_at_call 22; refine (FX.out).mono ?_)
    first | (rintro e w3 ⟨he, h3, g3⟩; have he' := he) | (rintro e w3 he h3 g3)
    subst he
    have YH := blk_in' YX.out
    have YX : Hid (w3.heap[H]? = some (.cells #[.string m.nm, .slice x1 m.cs.length c1, .slice x2 m.fs.length c2, .slice x3 m.js.length c3] 28 (0, 0))) := (g3.block H YH (by intro q; cases q; have := HL.out; omega)).trans YX.out
    have RX : Hid (w3.heap[G + 1]? = some (.cells #[.slice (some ⟨kb, o, none⟩) bs.length c, .int .i64 p, .int .i64 a2, .int .i64 y2] 64 (0, 0))) := h3
    have XX : Hid (w3.heap[G]? = some (.cells #[.string ⟨#[]⟩, .slice none 0 0, .slice none 0 0, .slice none 0 0] 28 (0, 0))) := (g3.block G (by have := HL.out; omega) (by intro q; cases q)).trans X2.out
    have BB : Hid (Below w.heap.size w w3) := gb_below (by have := HG.out; omega) B2.out g3
    have QQ : Hid (ImQ (Fresh (G + 2) H) w3 m x1 x2 x3) := Q2.out.fr (fun q hq => World.cell?_of_block (g3.block _ (by have := hq.2; omega) (by intro e; have e := Option.some.inj e; have := hq.1; omega)))
    clear h3 g3 YH FX R2 B2 X2 Q2 d0 d1 d2 d3
    go_upto_region 5 with fail
    refine wp_region_J 13 (fun V => V.heap[H]? = some (.cells #[.string m.nm, .slice x1 m.cs.length c1, .slice x2 m.fs.length c2, .slice x3 m.js.length c3] 28 (0, 0)) ∧ V.heap[G + 1]? = some (.cells #[.slice (some ⟨kb, o, none⟩) bs.length c, .int .i64 p, .int .i64 a2, .int .i64 y2] 64 (0, 0))) (by kernel_rfl) ⟨YX.out, RX.out⟩ (fun hHeld => ?_)
    refine wpAnyJ_take (i := 0) (v := .agg #[.string m.nm, .slice x1 m.cs.length c1, .slice x2 m.fs.length c2, .slice x3 m.js.length c3]) rfl (by kernel_rfl) (by kernel_rfl) (by kernel_rfl) (by kernel_rfl) (fun _ _ _ h => h) (Or.inl ⟨by rfl, fun V hV => ?_⟩) hHeld ?_
    · have k0 : V.cell? ⟨H, 0, none⟩ = some (.string m.nm) := by simp [World.cell?, hV.1]
      have k1 : V.cell? ⟨H, 1, none⟩ = some (.slice x1 m.cs.length c1) := by simp [World.cell?, hV.1]
      have k2 : V.cell? ⟨H, 2, none⟩ = some (.slice x2 m.fs.length c2) := by simp [World.cell?, hV.1]
      have k3 : V.cell? ⟨H, 3, none⟩ = some (.slice x3 m.js.length c3) := by simp [World.cell?, hV.1]
      go_simp
    simp only [Act.put, List.setIfInBounds_toArray, List.getElem_toArray, List.getElem_cons_zero, List.getElem_cons_succ, List.set_cons_zero, List.set_cons_succ]
    refine wpAnyJ_take (i := 1) (v := .pointer (some ⟨G + 1, 0, none⟩)) rfl (by kernel_rfl) (by kernel_rfl) (by kernel_rfl) (by kernel_rfl) (fun _ _ _ h => h) (Or.inl ⟨by rfl, fun V hV => ?_⟩) hHeld ?_
    · go_simp
    simp only [Act.put, List.setIfInBounds_toArray, List.getElem_toArray, List.getElem_cons_zero, List.getElem_cons_succ, List.set_cons_zero, List.set_cons_succ]
    refine wpAnyJ_take (i := 2) (v := .pointer (some ⟨G + 1, 0, none⟩)) rfl (by kernel_rfl) (by kernel_rfl) (by kernel_rfl) (by kernel_rfl) (fun _ _ _ h => h) (Or.inl ⟨by rfl, fun V hV => ?_⟩) hHeld ?_
    · go_simp
    simp only [Act.put, List.setIfInBounds_toArray, List.getElem_toArray, List.getElem_cons_zero, List.getElem_cons_succ, List.set_cons_zero, List.set_cons_succ]
    refine wpAnyJ_take (i := 3) (v := .pointer (some ⟨G + 1, 2, none⟩)) rfl (by kernel_rfl) (by kernel_rfl) (by kernel_rfl) (by kernel_rfl) (fun _ _ _ h => h) (Or.inl ⟨by rfl, fun V hV => ?_⟩) hHeld ?_
    · go_simp
    simp only [Act.put, List.setIfInBounds_toArray, List.getElem_toArray, List.getElem_cons_zero, List.getElem_cons_succ, List.set_cons_zero, List.set_cons_succ]
    refine wpAnyJ_take (i := 4) (v := .pointer (some ⟨G + 1, 2, none⟩)) rfl (by kernel_rfl) (by kernel_rfl) (by kernel_rfl) (by kernel_rfl) (fun _ _ _ h => h) (Or.inl ⟨by rfl, fun V hV => ?_⟩) hHeld ?_
    · go_simp
    simp only [Act.put, List.setIfInBounds_toArray, List.getElem_toArray, List.getElem_cons_zero, List.getElem_cons_succ, List.set_cons_zero, List.set_cons_succ]
    refine wpAnyJ_take (i := 5) (v := .int .i64 a2) rfl (by kernel_rfl) (by kernel_rfl) (by kernel_rfl) (by kernel_rfl) (fun _ _ _ h => h) (Or.inl ⟨by rfl, fun V hV => ?_⟩) hHeld ?_
    · have k2 : V.cell? ⟨G + 1, 2, none⟩ = some (.int .i64 a2) := by simp [World.cell?, hV.2]
      go_simp
    simp only [Act.put, List.setIfInBounds_toArray, List.getElem_toArray, List.getElem_cons_zero, List.getElem_cons_succ, List.set_cons_zero, List.set_cons_succ]
    refine wpAnyJ_take (i := 6) (v := .pointer (some ⟨G + 1, 0, none⟩)) rfl (by kernel_rfl) (by kernel_rfl) (by kernel_rfl) (by kernel_rfl) (fun _ _ _ h => h) (Or.inl ⟨by rfl, fun V hV => ?_⟩) hHeld ?_
    · go_simp
    simp only [Act.put, List.setIfInBounds_toArray, List.getElem_toArray, List.getElem_cons_zero, List.getElem_cons_succ, List.set_cons_zero, List.set_cons_succ]
    refine wpAnyJ_take (i := 7) (v := .pointer (some ⟨G + 1, 0, none⟩)) rfl (by kernel_rfl) (by kernel_rfl) (by kernel_rfl) (by kernel_rfl) (fun _ _ _ h => h) (Or.inl ⟨by rfl, fun V hV => ?_⟩) hHeld ?_
    · go_simp
    simp only [Act.put, List.setIfInBounds_toArray, List.getElem_toArray, List.getElem_cons_zero, List.getElem_cons_succ, List.set_cons_zero, List.set_cons_succ]
    refine wpAnyJ_take (i := 8) (v := .pointer (some ⟨G + 1, 2, none⟩)) rfl (by kernel_rfl) (by kernel_rfl) (by kernel_rfl) (by kernel_rfl) (fun _ _ _ h => h) (Or.inl ⟨by rfl, fun V hV => ?_⟩) hHeld ?_
    · go_simp
    simp only [Act.put, List.setIfInBounds_toArray, List.getElem_toArray, List.getElem_cons_zero, List.getElem_cons_succ, List.set_cons_zero, List.set_cons_succ]
    refine wpAnyJ_take (i := 9) (v := .pointer (some ⟨G + 1, 3, none⟩)) rfl (by kernel_rfl) (by kernel_rfl) (by kernel_rfl) (by kernel_rfl) (fun _ _ _ h => h) (Or.inl ⟨by rfl, fun V hV => ?_⟩) hHeld ?_
    · go_simp
    simp only [Act.put, List.setIfInBounds_toArray, List.getElem_toArray, List.getElem_cons_zero, List.getElem_cons_succ, List.set_cons_zero, List.set_cons_succ]
    refine wpAnyJ_take (i := 10) (v := .int .i64 y2) rfl (by kernel_rfl) (by kernel_rfl) (by kernel_rfl) (by kernel_rfl) (fun _ _ _ h => h) (Or.inl ⟨by rfl, fun V hV => ?_⟩) hHeld ?_
    · have k3 : V.cell? ⟨G + 1, 3, none⟩ = some (.int .i64 y2) := by simp [World.cell?, hV.2]
      go_simp
    simp only [Act.put, List.setIfInBounds_toArray, List.getElem_toArray, List.getElem_cons_zero, List.getElem_cons_succ, List.set_cons_zero, List.set_cons_succ]
    have X4 : w3.drew.heap[G]? = some (.cells #[.string ⟨#[]⟩, .slice none 0 0, .slice none 0 0, .slice none 0 0] 28 (0, 0)) := XX.out
    refine wpAnyJ_one (i := 11) (by kernel_rfl) rfl (fun K hK => ?_)
    rw [if_pos (by rfl)]
    refine wp_store_row 28 (.tmp 2) (.tmp 25) rfl G #[.string m.nm, .slice x1 m.cs.length c1, .slice x2 m.fs.length c2, .slice x3 m.js.length c3] rfl rfl 28 _ X4 (show (Tryz.prog.info? 28).map (·.size) = some 4 by kernel_rfl) rfl (by kernel_rfl) ?_
    refine hK.out _ _ (fun _ => ⟨(setRow_other _ _ _ _ (by have := HL.out; omega)).trans YX.out, (setRow_other _ _ _ _ (by omega)).trans RX.out⟩) ?_
    clear hK K
    simp only [Act.put, List.setIfInBounds_toArray, List.getElem_toArray, List.getElem_cons_zero, List.getElem_cons_succ, List.set_cons_zero, List.set_cons_succ]
    refine wpAnyJ_one (i := 12) (by kernel_rfl) rfl (fun K hK => ?_)
    go_simp
    refine hK.out _ _ (fun _ => ⟨(setRow_other _ _ _ _ (by have := HL.out; omega)).trans YX.out, (setRow_other _ _ _ _ (by omega)).trans RX.out⟩) ?_
    clear hK K
    refine wpAnyJ_one (i := 13) (by kernel_rfl) rfl (fun K hK => ?_)
    go_simp
    refine hK.out _ _ (fun h => nomatch (show true = false from h)) ?_
    clear hK K
    refine wpAnyJ_done (by kernel_rfl) ?_ _
    have hz := setRow_heap w3.drew G _ (#[.string m.nm, .slice x1 m.cs.length c1, .slice x2 m.fs.length c2, .slice x3 m.js.length c3]) _ _ X4
    have BZ : Hid (Below w.heap.size w (w3.drew.setRow G #[.string m.nm, .slice x1 m.cs.length c1, .slice x2 m.fs.length c2, .slice x3 m.js.length c3])) := row_below_d BB.out.drew (by have := HG.out; omega) _
    have QZ : Hid (ImQ (Fresh (G + 2) H) (w3.drew.setRow G #[.string m.nm, .slice x1 m.cs.length c1, .slice x2 m.fs.length c2, .slice x3 m.js.length c3]) m x1 x2 x3) := QQ.out.fr (fun q hq => World.cell?_of_block (setRow_other _ _ _ _ (by have := hq.1; omega)))
    have SZ : Hid (H ≤ (w3.drew.setRow G #[.string m.nm, .slice x1 m.cs.length c1, .slice x2 m.fs.length c2, .slice x3 m.js.length c3]).heap.size) := by have := blk_in' YX.out; show _ ≤ _; simpa [World.setRow] using Nat.le_of_lt this
    generalize w3.drew.setRow G #[.string m.nm, .slice x1 m.cs.length c1, .slice x2 m.fs.length c2, .slice x3 m.js.length c3] = W5 at hz BZ QZ SZ ⊢
    clear hHeld X4
    go_step
    go_wp2
    refine bodyPost_ret (v := .tuple #[.agg #[.string m.nm, .slice x1 m.cs.length c1, .slice x2 m.fs.length c2, .slice x3 m.js.length c3], .int .i64 a2, .int .i64 y2]) (results_cell_row_2 Tryz.results11 _ _ G _ _ (0, 0) _ (by first | rfl | simp [Act.put]) hz Tryz.underlying28 rfl (show (Tryz.prog.info? 28).map (·.size) = some 4 by kernel_rfl)) rfl ?_
    obtain ⟨ua, uy⟩ := UV.out
    first | exact ⟨⟨x1, c1, x2, c2, x3, ⟨c3, by rw [ua, uy]⟩, QZ.out.sub (up_sub' (by have := HG.out; omega) SZ.out)⟩, BZ.out⟩ | exact ⟨⟨x1, c1, x2, c2, x3, c3, by rw [ua, uy], QZ.out.sub (up_sub' (by have := HG.out; omega) SZ.out)⟩, BZ.out⟩
  · have hp' : ¬ (p : Int) < bs.length := by omega
    have UV : Hid (u.a = a ∧ u.y = y) := by
      have q := RE.out
      unfold rdEnd at q
      rw [if_neg (show ¬ (⟨p, a, y⟩ : RS).p < bs.length from hp)] at q
      show _ ∧ _
      rw [← q]
      exact ⟨rfl, rfl⟩
    clear hp
    have BB : Hid (Below w.heap.size w W2) := B2.out
    have QQ : Hid (ImQ (Fresh (G + 2) H) W2 m x1 x2 x3) := Q2.out
    have XX : Hid (W2.heap[G]? = some (.cells #[.string ⟨#[]⟩, .slice none 0 0, .slice none 0 0, .slice none 0 0] 28 (0, 0))) := X2.out
    go_upto_region 5 with fail
    refine wp_region_J 13 (fun V => V.heap[H]? = some (.cells #[.string m.nm, .slice x1 m.cs.length c1, .slice x2 m.fs.length c2, .slice x3 m.js.length c3] 28 (0, 0)) ∧ V.heap[G + 1]? = some (.cells #[.slice (some ⟨kb, o, none⟩) bs.length c, .int .i64 p, .int .i64 a, .int .i64 y] 64 (0, 0))) (by kernel_rfl) ⟨YX.out, RX.out⟩ (fun hHeld => ?_)
    refine wpAnyJ_take (i := 0) (v := .agg #[.string m.nm, .slice x1 m.cs.length c1, .slice x2 m.fs.length c2, .slice x3 m.js.length c3]) rfl (by kernel_rfl) (by kernel_rfl) (by kernel_rfl) (by kernel_rfl) (fun _ _ _ h => h) (Or.inl ⟨by rfl, fun V hV => ?_⟩) hHeld ?_
    · have k0 : V.cell? ⟨H, 0, none⟩ = some (.string m.nm) := by simp [World.cell?, hV.1]
      have k1 : V.cell? ⟨H, 1, none⟩ = some (.slice x1 m.cs.length c1) := by simp [World.cell?, hV.1]
      have k2 : V.cell? ⟨H, 2, none⟩ = some (.slice x2 m.fs.length c2) := by simp [World.cell?, hV.1]
      have k3 : V.cell? ⟨H, 3, none⟩ = some (.slice x3 m.js.length c3) := by simp [World.cell?, hV.1]
      go_simp
    simp only [Act.put, List.setIfInBounds_toArray, List.getElem_toArray, List.getElem_cons_zero, List.getElem_cons_succ, List.set_cons_zero, List.set_cons_succ]
    refine wpAnyJ_take (i := 1) (v := .pointer (some ⟨G + 1, 0, none⟩)) rfl (by kernel_rfl) (by kernel_rfl) (by kernel_rfl) (by kernel_rfl) (fun _ _ _ h => h) (Or.inl ⟨by rfl, fun V hV => ?_⟩) hHeld ?_
    · go_simp
    simp only [Act.put, List.setIfInBounds_toArray, List.getElem_toArray, List.getElem_cons_zero, List.getElem_cons_succ, List.set_cons_zero, List.set_cons_succ]
    refine wpAnyJ_take (i := 2) (v := .pointer (some ⟨G + 1, 0, none⟩)) rfl (by kernel_rfl) (by kernel_rfl) (by kernel_rfl) (by kernel_rfl) (fun _ _ _ h => h) (Or.inl ⟨by rfl, fun V hV => ?_⟩) hHeld ?_
    · go_simp
    simp only [Act.put, List.setIfInBounds_toArray, List.getElem_toArray, List.getElem_cons_zero, List.getElem_cons_succ, List.set_cons_zero, List.set_cons_succ]
    refine wpAnyJ_take (i := 3) (v := .pointer (some ⟨G + 1, 2, none⟩)) rfl (by kernel_rfl) (by kernel_rfl) (by kernel_rfl) (by kernel_rfl) (fun _ _ _ h => h) (Or.inl ⟨by rfl, fun V hV => ?_⟩) hHeld ?_
    · go_simp
    simp only [Act.put, List.setIfInBounds_toArray, List.getElem_toArray, List.getElem_cons_zero, List.getElem_cons_succ, List.set_cons_zero, List.set_cons_succ]
    refine wpAnyJ_take (i := 4) (v := .pointer (some ⟨G + 1, 2, none⟩)) rfl (by kernel_rfl) (by kernel_rfl) (by kernel_rfl) (by kernel_rfl) (fun _ _ _ h => h) (Or.inl ⟨by rfl, fun V hV => ?_⟩) hHeld ?_
    · go_simp
    simp only [Act.put, List.setIfInBounds_toArray, List.getElem_toArray, List.getElem_cons_zero, List.getElem_cons_succ, List.set_cons_zero, List.set_cons_succ]
    refine wpAnyJ_take (i := 5) (v := .int .i64 a) rfl (by kernel_rfl) (by kernel_rfl) (by kernel_rfl) (by kernel_rfl) (fun _ _ _ h => h) (Or.inl ⟨by rfl, fun V hV => ?_⟩) hHeld ?_
    · have k2 : V.cell? ⟨G + 1, 2, none⟩ = some (.int .i64 a) := by simp [World.cell?, hV.2]
      go_simp
    simp only [Act.put, List.setIfInBounds_toArray, List.getElem_toArray, List.getElem_cons_zero, List.getElem_cons_succ, List.set_cons_zero, List.set_cons_succ]
    refine wpAnyJ_take (i := 6) (v := .pointer (some ⟨G + 1, 0, none⟩)) rfl (by kernel_rfl) (by kernel_rfl) (by kernel_rfl) (by kernel_rfl) (fun _ _ _ h => h) (Or.inl ⟨by rfl, fun V hV => ?_⟩) hHeld ?_
    · go_simp
    simp only [Act.put, List.setIfInBounds_toArray, List.getElem_toArray, List.getElem_cons_zero, List.getElem_cons_succ, List.set_cons_zero, List.set_cons_succ]
    refine wpAnyJ_take (i := 7) (v := .pointer (some ⟨G + 1, 0, none⟩)) rfl (by kernel_rfl) (by kernel_rfl) (by kernel_rfl) (by kernel_rfl) (fun _ _ _ h => h) (Or.inl ⟨by rfl, fun V hV => ?_⟩) hHeld ?_
    · go_simp
    simp only [Act.put, List.setIfInBounds_toArray, List.getElem_toArray, List.getElem_cons_zero, List.getElem_cons_succ, List.set_cons_zero, List.set_cons_succ]
    refine wpAnyJ_take (i := 8) (v := .pointer (some ⟨G + 1, 2, none⟩)) rfl (by kernel_rfl) (by kernel_rfl) (by kernel_rfl) (by kernel_rfl) (fun _ _ _ h => h) (Or.inl ⟨by rfl, fun V hV => ?_⟩) hHeld ?_
    · go_simp
    simp only [Act.put, List.setIfInBounds_toArray, List.getElem_toArray, List.getElem_cons_zero, List.getElem_cons_succ, List.set_cons_zero, List.set_cons_succ]
    refine wpAnyJ_take (i := 9) (v := .pointer (some ⟨G + 1, 3, none⟩)) rfl (by kernel_rfl) (by kernel_rfl) (by kernel_rfl) (by kernel_rfl) (fun _ _ _ h => h) (Or.inl ⟨by rfl, fun V hV => ?_⟩) hHeld ?_
    · go_simp
    simp only [Act.put, List.setIfInBounds_toArray, List.getElem_toArray, List.getElem_cons_zero, List.getElem_cons_succ, List.set_cons_zero, List.set_cons_succ]
    refine wpAnyJ_take (i := 10) (v := .int .i64 y) rfl (by kernel_rfl) (by kernel_rfl) (by kernel_rfl) (by kernel_rfl) (fun _ _ _ h => h) (Or.inl ⟨by rfl, fun V hV => ?_⟩) hHeld ?_
    · have k3 : V.cell? ⟨G + 1, 3, none⟩ = some (.int .i64 y) := by simp [World.cell?, hV.2]
      go_simp
    simp only [Act.put, List.setIfInBounds_toArray, List.getElem_toArray, List.getElem_cons_zero, List.getElem_cons_succ, List.set_cons_zero, List.set_cons_succ]
    have X4 : W2.drew.heap[G]? = some (.cells #[.string ⟨#[]⟩, .slice none 0 0, .slice none 0 0, .slice none 0 0] 28 (0, 0)) := XX.out
    refine wpAnyJ_one (i := 11) (by kernel_rfl) rfl (fun K hK => ?_)
    rw [if_pos (by rfl)]
    refine wp_store_row 28 (.tmp 2) (.tmp 25) rfl G #[.string m.nm, .slice x1 m.cs.length c1, .slice x2 m.fs.length c2, .slice x3 m.js.length c3] rfl rfl 28 _ X4 (show (Tryz.prog.info? 28).map (·.size) = some 4 by kernel_rfl) rfl (by kernel_rfl) ?_
    refine hK.out _ _ (fun _ => ⟨(setRow_other _ _ _ _ (by have := HL.out; omega)).trans YX.out, (setRow_other _ _ _ _ (by omega)).trans RX.out⟩) ?_
    clear hK K
    simp only [Act.put, List.setIfInBounds_toArray, List.getElem_toArray, List.getElem_cons_zero, List.getElem_cons_succ, List.set_cons_zero, List.set_cons_succ]
    refine wpAnyJ_one (i := 12) (by kernel_rfl) rfl (fun K hK => ?_)
    go_simp
    refine hK.out _ _ (fun _ => ⟨(setRow_other _ _ _ _ (by have := HL.out; omega)).trans YX.out, (setRow_other _ _ _ _ (by omega)).trans RX.out⟩) ?_
    clear hK K
    refine wpAnyJ_one (i := 13) (by kernel_rfl) rfl (fun K hK => ?_)
    go_simp
    refine hK.out _ _ (fun h => nomatch (show true = false from h)) ?_
    clear hK K
    refine wpAnyJ_done (by kernel_rfl) ?_ _
    have hz := setRow_heap W2.drew G _ (#[.string m.nm, .slice x1 m.cs.length c1, .slice x2 m.fs.length c2, .slice x3 m.js.length c3]) _ _ X4
    have BZ : Hid (Below w.heap.size w (W2.drew.setRow G #[.string m.nm, .slice x1 m.cs.length c1, .slice x2 m.fs.length c2, .slice x3 m.js.length c3])) := row_below_d BB.out.drew (by have := HG.out; omega) _
    have QZ : Hid (ImQ (Fresh (G + 2) H) (W2.drew.setRow G #[.string m.nm, .slice x1 m.cs.length c1, .slice x2 m.fs.length c2, .slice x3 m.js.length c3]) m x1 x2 x3) := QQ.out.fr (fun q hq => World.cell?_of_block (setRow_other _ _ _ _ (by have := hq.1; omega)))
    have SZ : Hid (H ≤ (W2.drew.setRow G #[.string m.nm, .slice x1 m.cs.length c1, .slice x2 m.fs.length c2, .slice x3 m.js.length c3]).heap.size) := by have := blk_in' YX.out; show _ ≤ _; simpa [World.setRow] using Nat.le_of_lt this
    generalize W2.drew.setRow G #[.string m.nm, .slice x1 m.cs.length c1, .slice x2 m.fs.length c2, .slice x3 m.js.length c3] = W5 at hz BZ QZ SZ ⊢
    clear hHeld X4
    go_step
    go_wp2
    refine bodyPost_ret (v := .tuple #[.agg #[.string m.nm, .slice x1 m.cs.length c1, .slice x2 m.fs.length c2, .slice x3 m.js.length c3], .int .i64 a, .int .i64 y]) (results_cell_row_2 Tryz.results11 _ _ G _ _ (0, 0) _ (by first | rfl | simp [Act.put]) hz Tryz.underlying28 rfl (show (Tryz.prog.info? 28).map (·.size) = some 4 by kernel_rfl)) rfl ?_
    obtain ⟨ua, uy⟩ := UV.out
    first | exact ⟨⟨x1, c1, x2, c2, x3, ⟨c3, by rw [ua, uy]⟩, QZ.out.sub (up_sub' (by have := HG.out; omega) SZ.out)⟩, BZ.out⟩ | exact ⟨⟨x1, c1, x2, c2, x3, c3, by rw [ua, uy], QZ.out.sub (up_sub' (by have := HG.out; omega) SZ.out)⟩, BZ.out⟩
end Go.Proofs.YtahgnmbkobiclaaGreat
namespace Go.Proofs.YtahgnmbkobiclaaGreat
set_option linter.unusedVariables false
open Go.RowKit
/-- Without a fault nothing of a fault is told. -/
def Kd (f : RS → RS) : Prop := ∀ s, (f s).y = 0 → s.y = 0 ∧ (f s).a = s.a
theorem Kd.comp {f g : RS → RS} (hf : Kd f) (hg : Kd g) : Kd (fun s => g (f s)) := fun s h => by
  obtain ⟨h1, h2⟩ := hg _ h
  obtain ⟨h3, h4⟩ := hf _ h1
  exact ⟨h3, h2.trans h4⟩
theorem Kd.id : Kd (fun s => s) := fun s h => ⟨h, rfl⟩
section
variable (bs : List Nat)
theorem kdB : Kd (fun s => (rdB bs s).2) := fun s h => by
  change (rdB bs s).2.y = 0 at h
  show s.y = 0 ∧ (rdB bs s).2.a = s.a
  unfold rdB at *
  by_cases q : s.y = 0 ∧ s.p < bs.length
  · rw [if_pos q] at *; exact ⟨q.1, rfl⟩
  · rw [if_neg q] at h; exact absurd h (RS.no_y _ _)
theorem kdN : Kd (fun s => (rdN bs s).2) := fun s h => by
  change (rdN bs s).2.y = 0 at h
  show s.y = 0 ∧ (rdN bs s).2.a = s.a
  unfold rdN at *
  by_cases q : s.y = 0 ∧ s.p + 8 ≤ bs.length
  · rw [if_pos q] at *; exact ⟨q.1, rfl⟩
  · rw [if_neg q] at h; exact absurd h (RS.no_y _ _)
theorem kdF : Kd (fun s => (rdF bs s).2) := fun s h => by
  change (rdF bs s).2.y = 0 at h
  show s.y = 0 ∧ (rdF bs s).2.a = s.a
  unfold rdF at *
  dsimp only at *
  by_cases q : 1 < (rdB bs s).1
  · rw [if_pos q] at h; exact absurd h (show ¬ (203 : Int) = 0 by decide)
  · rw [if_neg q] at *; exact kdB bs s h
theorem kdC : Kd (fun s => (rdC bs s).2) := fun s h => by
  change (rdC bs s).2.y = 0 at h
  show s.y = 0 ∧ (rdC bs s).2.a = s.a
  unfold rdC at *
  dsimp only at *
  by_cases q0 : (rdN bs s).2.y = 0
  · rw [if_pos q0] at *
    by_cases q1 : (rdN bs s).1 < 0
    · rw [if_pos q1] at h; exact absurd h (show ¬ (4 : Int) = 0 by decide)
    · rw [if_neg q1] at *
      by_cases q2 : (bs.length : Int) - (s.p + 8) < (rdN bs s).1
      · rw [if_pos q2] at h; exact absurd h (show ¬ (2 : Int) = 0 by decide)
      · rw [if_neg q2] at *; exact kdN bs s h
  · rw [if_neg q0] at *; exact kdN bs s h
theorem kdT : Kd (fun s => (rdT bs s).2) := fun s h => by
  change (rdT bs s).2.y = 0 at h
  show s.y = 0 ∧ (rdT bs s).2.a = s.a
  unfold rdT at *
  by_cases q : (rdC bs s).2.y = 0
  · rw [if_pos q] at *; exact kdC bs s q
  · rw [if_neg q] at *; exact kdC bs s h
theorem kdV : Kd (fun s => (rdV bs s).2) := ((kdB bs).comp (kdN bs)).comp (kdT bs)
theorem kdNs : ∀ k, Kd (rdNs bs k)
  | 0 => Kd.id
  | k + 1 => (kdNs k).comp (kdN bs)
theorem kdLp : Kd (fun s => (rdLp bs s).2) := ((kdN bs).comp (kdN bs)).comp (kdN bs)
theorem kdOp : Kd (fun s => (rdOp bs s).2) := (kdNs bs 7).comp (kdV bs)
theorem kdKS {α : Type} {rd : RS → α × RS} (h : Kd (fun s => (rd s).2)) : ∀ k, Kd (rdKS rd k)
  | 0 => Kd.id
  | k + 1 => fun s hs => by
    change (if s.y = 0 then rdKS rd k (rd s).2 else s).y = 0 at hs
    show s.y = 0 ∧ (if s.y = 0 then rdKS rd k (rd s).2 else s).a = s.a
    by_cases q : s.y = 0
    · rw [if_pos q] at hs ⊢
      exact (h.comp (kdKS h k)) s hs
    · rw [if_neg q] at hs; exact absurd hs q
theorem kdL {α : Type} {rd : RS → α × RS} (h : Kd (fun s => (rd s).2)) : Kd (fun s => (rdL rd bs s).2) := fun s hs => by
  obtain ⟨h1, h2⟩ := kdKS h (rdC bs s).1.toNat (rdC bs s).2 hs
  obtain ⟨h3, h4⟩ := kdC bs s h1
  exact ⟨h3, h2.trans h4⟩
theorem kdCe : Kd (fun s => (rdCe bs s).2) := ((((((kdB bs).comp (kdF bs)).comp (kdNs bs 3)).comp (kdV bs)).comp (kdF bs)).comp (kdB bs)).comp (kdT bs)
theorem kdFl : Kd (fun s => (rdFl bs s).2) := (((kdT bs).comp (kdNs bs 5)).comp (kdL bs (kdOp bs))).comp (kdL bs (kdLp bs))
theorem kdJb : Kd (fun s => (rdJb bs s).2) := ((((kdT bs).comp (kdNs bs 3)).comp (kdL bs (kdN bs))).comp (kdL bs (kdN bs))).comp (kdN bs)
theorem kdIm : Kd (fun s => (rdIm bs s).2) := (((kdT bs).comp (kdL bs (kdCe bs))).comp (kdL bs (kdFl bs))).comp (kdL bs (kdJb bs))
theorem kdEnd : Kd (rdEnd bs) := fun s h => by
  unfold rdEnd at *
  by_cases q : s.p < bs.length
  · rw [if_pos q] at *
    by_cases z : s.y = 0
    · rw [if_pos z] at h; exact absurd h (show ¬ (3 : Int) = 0 by decide)
    · rw [if_neg z] at h; exact absurd h z
  · rw [if_neg q] at *; exact ⟨h, rfl⟩
end
end Go.Proofs.YtahgnmbkobiclaaGreat
namespace Go.Proofs.YtahgnmbkobiclaaGreat
set_option linter.unusedVariables false
open Go.RowKit
/-- Without a fault a reading goes on, and not beyond the end. -/
def Md (n : Nat) (f : RS → RS) : Prop := ∀ s, (f s).y = 0 → s.p ≤ (f s).p ∧ (s.p ≤ n → (f s).p ≤ n)
theorem Md.comp {n : Nat} {f g : RS → RS} (hf : Md n f) (hg : Md n g) (kg : Kd g) : Md n (fun s => g (f s)) := fun s h => by
  have q := (kg _ h).1
  obtain ⟨h1, h2⟩ := hg _ h
  obtain ⟨h3, h4⟩ := hf _ q
  exact ⟨Nat.le_trans h3 h1, fun z => h2 (h4 z)⟩
theorem Md.id (n : Nat) : Md n (fun s => s) := fun s h => ⟨Nat.le_refl _, fun z => z⟩
/-- It takes eight bytes at least. -/
def Ad (n : Nat) (f : RS → RS) : Prop := ∀ s, (f s).y = 0 → s.p + 8 ≤ (f s).p ∧ (s.p ≤ n → (f s).p ≤ n)
theorem Ad.md {n : Nat} {f : RS → RS} (h : Ad n f) : Md n f := fun s q => ⟨Nat.le_trans (Nat.le_add_right _ 8) (h s q).1, (h s q).2⟩
theorem Ad.comp {n : Nat} {f g : RS → RS} (hf : Md n f) (hg : Ad n g) (kg : Kd g) : Ad n (fun s => g (f s)) := fun s h => by
  have q := (kg _ h).1
  obtain ⟨h1, h2⟩ := hg _ h
  obtain ⟨h3, h4⟩ := hf _ q
  exact ⟨show s.p + 8 ≤ (g (f s)).p by omega, fun z => h2 (h4 z)⟩
section
variable (bs : List Nat)
theorem mdB : Md bs.length (fun s => (rdB bs s).2) := fun s h => by
  change (rdB bs s).2.y = 0 at h
  show s.p ≤ (rdB bs s).2.p ∧ (s.p ≤ bs.length → (rdB bs s).2.p ≤ bs.length)
  unfold rdB at *
  by_cases q : s.y = 0 ∧ s.p < bs.length
  · rw [if_pos q] at *; exact ⟨Nat.le_succ _, fun _ => q.2⟩
  · rw [if_neg q] at h; exact absurd h (RS.no_y _ _)
theorem adN : Ad bs.length (fun s => (rdN bs s).2) := fun s h => by
  change (rdN bs s).2.y = 0 at h
  show s.p + 8 ≤ (rdN bs s).2.p ∧ (s.p ≤ bs.length → (rdN bs s).2.p ≤ bs.length)
  unfold rdN at *
  by_cases q : s.y = 0 ∧ s.p + 8 ≤ bs.length
  · rw [if_pos q] at *; exact ⟨Nat.le_refl _, fun _ => q.2⟩
  · rw [if_neg q] at h; exact absurd h (RS.no_y _ _)
theorem mdF : Md bs.length (fun s => (rdF bs s).2) := fun s h => by
  change (rdF bs s).2.y = 0 at h
  show s.p ≤ (rdF bs s).2.p ∧ (s.p ≤ bs.length → (rdF bs s).2.p ≤ bs.length)
  unfold rdF at *
  dsimp only at *
  by_cases q : 1 < (rdB bs s).1
  · rw [if_pos q] at h; exact absurd h (show ¬ (203 : Int) = 0 by decide)
  · rw [if_neg q] at *; exact mdB bs s h
theorem rdC_at {s : RS} (h : (rdC bs s).2.y = 0) : (rdC bs s).2 = (rdN bs s).2 := by
  unfold rdC at *
  dsimp only at *
  by_cases q0 : (rdN bs s).2.y = 0
  · rw [if_pos q0] at *
    by_cases q1 : (rdN bs s).1 < 0
    · rw [if_pos q1] at h; exact absurd h (show ¬ (4 : Int) = 0 by decide)
    · rw [if_neg q1] at *
      by_cases q2 : (bs.length : Int) - (s.p + 8) < (rdN bs s).1
      · rw [if_pos q2] at h; exact absurd h (show ¬ (2 : Int) = 0 by decide)
      · rw [if_neg q2]
  · rw [if_neg q0] at *
theorem adC : Ad bs.length (fun s => (rdC bs s).2) := fun s h => by
  change (rdC bs s).2.y = 0 at h
  show s.p + 8 ≤ (rdC bs s).2.p ∧ (s.p ≤ bs.length → (rdC bs s).2.p ≤ bs.length)
  rw [rdC_at bs h] at *
  exact adN bs s h
theorem adT : Ad bs.length (fun s => (rdT bs s).2) := fun s h => by
  change (rdT bs s).2.y = 0 at h
  show s.p + 8 ≤ (rdT bs s).2.p ∧ (s.p ≤ bs.length → (rdT bs s).2.p ≤ bs.length)
  unfold rdT at *
  by_cases q : (rdC bs s).2.y = 0
  · rw [if_pos q] at *
    obtain ⟨k0, k1⟩ := rdC_ok q
    have := (adC bs s q).1
    exact ⟨Nat.le_trans this (Nat.le_add_right _ _), fun _ => k1⟩
  · rw [if_neg q] at h; exact absurd h q
theorem adV : Ad bs.length (fun s => (rdV bs s).2) := Ad.comp ((mdB bs).comp (adN bs).md (kdN bs)) (adT bs) (kdT bs)
theorem mdNs : ∀ k, Md bs.length (rdNs bs k)
  | 0 => Md.id _
  | k + 1 => (mdNs k).comp (adN bs).md (kdN bs)
theorem adLp : Ad bs.length (fun s => (rdLp bs s).2) := Ad.comp ((adN bs).md.comp (adN bs).md (kdN bs)) (adN bs) (kdN bs)
theorem adOp : Ad bs.length (fun s => (rdOp bs s).2) := Ad.comp (mdNs bs 7) (adV bs) (kdV bs)
theorem mdKS {α : Type} {rd : RS → α × RS} (h : Md bs.length (fun s => (rd s).2)) (kd : Kd (fun s => (rd s).2)) : ∀ k, Md bs.length (rdKS rd k)
  | 0 => Md.id _
  | k + 1 => fun s hs => by
    change (if s.y = 0 then rdKS rd k (rd s).2 else s).y = 0 at hs
    show s.p ≤ (if s.y = 0 then rdKS rd k (rd s).2 else s).p ∧ (s.p ≤ bs.length → (if s.y = 0 then rdKS rd k (rd s).2 else s).p ≤ bs.length)
    by_cases q : s.y = 0
    · rw [if_pos q] at hs ⊢
      exact (h.comp (mdKS h kd k) (kdKS kd k)) s hs
    · rw [if_neg q] at hs; exact absurd hs q
theorem adL {α : Type} {rd : RS → α × RS} (h : Md bs.length (fun s => (rd s).2)) (kd : Kd (fun s => (rd s).2)) : Ad bs.length (fun s => (rdL rd bs s).2) := fun s hs => by
  have q := (kdKS kd (rdC bs s).1.toNat (rdC bs s).2 hs).1
  obtain ⟨h1, h2⟩ := mdKS bs h kd (rdC bs s).1.toNat (rdC bs s).2 hs
  obtain ⟨h3, h4⟩ := adC bs s q
  exact ⟨Nat.le_trans h3 h1, fun z => h2 (h4 z)⟩
theorem adCe : Ad bs.length (fun s => (rdCe bs s).2) := Ad.comp ((((((mdB bs).comp (mdF bs) (kdF bs)).comp (mdNs bs 3) (kdNs bs 3)).comp (adV bs).md (kdV bs)).comp (mdF bs) (kdF bs)).comp (mdB bs) (kdB bs)) (adT bs) (kdT bs)
theorem adFl : Ad bs.length (fun s => (rdFl bs s).2) := Ad.comp (((adT bs).md.comp (mdNs bs 5) (kdNs bs 5)).comp (adL bs (adOp bs).md (kdOp bs)).md (kdL bs (kdOp bs))) (adL bs (adLp bs).md (kdLp bs)) (kdL bs (kdLp bs))
theorem adJb : Ad bs.length (fun s => (rdJb bs s).2) := Ad.comp ((((adT bs).md.comp (mdNs bs 3) (kdNs bs 3)).comp (adL bs (adN bs).md (kdN bs)).md (kdL bs (kdN bs))).comp (adL bs (adN bs).md (kdN bs)).md (kdL bs (kdN bs))) (adN bs) (kdN bs)
theorem rdKL_cnt {α : Type} {rd : RS → α × RS} (h : Ad bs.length (fun s => (rd s).2)) : ∀ (k : Nat) (s : RS), s.p ≤ bs.length → 8 * (rdKL rd k s).length ≤ (bs.length - s.p) + 8
  | 0, _, _ => Nat.zero_le _
  | k + 1, s, hp => by
    show 8 * (if s.y = 0 then (rd s).1 :: rdKL rd k (rd s).2 else []).length ≤ _
    by_cases q : s.y = 0
    · rw [if_pos q, List.length_cons]
      by_cases z : (rd s).2.y = 0
      · obtain ⟨h1, h2⟩ := h s z
        change s.p + 8 ≤ (rd s).2.p at h1
        have h3 := rdKL_cnt h k (rd s).2 (h2 hp)
        have h4 : (rd s).2.p ≤ bs.length := h2 hp
        omega
      · rw [rdKL_bad rd k z, List.length_nil]; omega
    · rw [if_neg q, List.length_nil]; omega
theorem rdL_few {α : Type} {rd : RS → α × RS} (h : Ad bs.length (fun s => (rd s).2)) (s : RS) (hn : bs.length ≤ 4194304) (hp : s.p ≤ bs.length) : (rdL rd bs s).1.length ≤ 1048576 := by
  have q := rdKL_cnt bs h (rdC bs s).1.toNat (rdC bs s).2 (rdC_le hp)
  show (rdKL rd (rdC bs s).1.toNat (rdC bs s).2).length ≤ _
  omega
end
end Go.Proofs.YtahgnmbkobiclaaGreat
namespace Go.Proofs.YtahgnmbkobiclaaGreat
set_option linter.unusedVariables false
open Go.RowKit
theorem wfW (z : Int) : wfI .i64 (wrap64 z) := by
  show (decide ((-9223372036854775808 : Int) ≤ wrap64 z) && decide (wrap64 z ≤ (9223372036854775807 : Int))) = true
  simp only [Bool.and_eq_true, decide_eq_true_eq]
  unfold wrap64
  omega
theorem u64_mod' (z : Int) : IntKind.u64.wrap z = z % 18446744073709551616 := rfl
theorem wfU (z : Int) : wfI .u64 (IntKind.u64.wrap z) := by
  rw [u64_mod']
  show (decide ((0 : Int) ≤ z % 18446744073709551616) && decide (z % 18446744073709551616 ≤ (18446744073709551615 : Int))) = true
  simp only [Bool.and_eq_true, decide_eq_true_eq]
  omega
section
variable (bs : List Nat)
theorem okN (s : RS) : wfI .i64 (rdN bs s).1 := by
  unfold rdN
  split
  · exact wfW _
  · exact (show wrap64 0 = (0 : Int) by unfold wrap64; omega) ▸ wfW 0
theorem okB (h8 : ∀ v ∈ bs, v < 256) (s : RS) : wfI .u8 ((rdB bs s).1 : Int) := wf8 _ (by omega) (by have := rdB_lt s h8; omega)
theorem okB' (h8 : ∀ v ∈ bs, v < 256) (s : RS) : wfI .i64 ((rdB bs s).1 : Int) := by
  have := rdB_lt s h8
  have e : wrap64 ((rdB bs s).1 : Int) = ((rdB bs s).1 : Int) := by unfold wrap64; omega
  exact e ▸ wfW _
theorem okT (s : RS) : (rdT bs s).1.size ≤ bs.length := by
  unfold rdT
  split
  · show (strOfNums _).size ≤ _
    rw [strOfNums_size, List.length_map, List.length_take, List.length_drop]
    omega
  · exact Nat.zero_le _
theorem rdKL_mem {α : Type} {rd : RS → α × RS} {x : α} : ∀ (k : Nat) (s : RS), x ∈ rdKL rd k s → ∃ t, x = (rd t).1
  | 0, _, h => by cases h
  | k + 1, s, h => by
    change x ∈ (if s.y = 0 then (rd s).1 :: rdKL rd k (rd s).2 else []) at h
    by_cases q : s.y = 0
    · rw [if_pos q] at h
      rcases List.mem_cons.1 h with z | z
      · exact ⟨s, z⟩
      · exact rdKL_mem k _ z
    · rw [if_neg q] at h; cases h
theorem rdL_mem {α : Type} {rd : RS → α × RS} {x : α} {s : RS} (h : x ∈ (rdL rd bs s).1) : ∃ t, x = (rd t).1 := rdKL_mem _ _ h
theorem rdKL_memP {α : Type} {rd : RS → α × RS} (hd : Md bs.length (fun s => (rd s).2)) {x : α} : ∀ (k : Nat) (s : RS), s.p ≤ bs.length → x ∈ rdKL rd k s → ∃ t, t.p ≤ bs.length ∧ x = (rd t).1
  | 0, _, _, h => by cases h
  | k + 1, s, hp, h => by
    change x ∈ (if s.y = 0 then (rd s).1 :: rdKL rd k (rd s).2 else []) at h
    by_cases q : s.y = 0
    · rw [if_pos q] at h
      rcases List.mem_cons.1 h with z | z
      · exact ⟨s, hp, z⟩
      · by_cases y : (rd s).2.y = 0
        · exact rdKL_memP hd k _ ((hd s y).2 hp) z
        · rw [rdKL_bad rd k y] at z; cases z
    · rw [if_neg q] at h; cases h
theorem rdL_memP {α : Type} {rd : RS → α × RS} (hd : Md bs.length (fun s => (rd s).2)) {x : α} {s : RS} (hp : s.p ≤ bs.length) (h : x ∈ (rdL rd bs s).1) : ∃ t, t.p ≤ bs.length ∧ x = (rd t).1 := rdKL_memP bs hd _ _ (rdC_le hp) h
theorem rdL_few' {α : Type} {rd : RS → α × RS} (h : Ad bs.length (fun s => (rd s).2)) (s : RS) (hn : bs.length ≤ 4194304) (hp : s.y = 0 → s.p ≤ bs.length) : (rdL rd bs s).1.length ≤ 1048576 := by
  by_cases q : (rdC bs s).2.y = 0
  · exact rdL_few bs h s hn (hp (kdC bs s q).1)
  · show (rdKL rd (rdC bs s).1.toNat (rdC bs s).2).length ≤ _
    rw [rdKL_bad rd _ q]; exact Nat.zero_le _
theorem okLp (s : RS) : LpOk (rdLp bs s).1 := ⟨okN bs _, okN bs _, okN bs _⟩
theorem okOp (h8 : ∀ v ∈ bs, v < 256) (hT : ∀ s, shT (rdT bs s).1) (s : RS) : OpOk (rdOp bs s).1 := ⟨okN bs _, okN bs _, okN bs _, okN bs _, okN bs _, okN bs _, okN bs _, okB bs h8 _, wfU _, hT _⟩
theorem okCe (h8 : ∀ v ∈ bs, v < 256) (hT : ∀ s, shT (rdT bs s).1) (s : RS) : CeOk (rdCe bs s).1 := ⟨okB bs h8 _, okN bs _, okN bs _, okN bs _, okB bs h8 _, wfU _, hT _, okB' bs h8 _, hT _⟩
/-- Where a list stands: only its bounds are asked here. -/
theorem okFl (h8 : ∀ v ∈ bs, v < 256) (hT : ∀ s, shT (rdT bs s).1) (s : RS) (h1 : (rdFl bs s).1.os.length ≤ 1048576) (h2 : (rdFl bs s).1.ls.length ≤ 1048576) : FlOk (rdFl bs s).1 :=
  ⟨hT _, okN bs _, okN bs _, okN bs _, okN bs _, okN bs _, fun o ho => by obtain ⟨t, rfl⟩ := rdL_mem bs ho; exact okOp bs h8 hT t, fun o ho => by obtain ⟨t, rfl⟩ := rdL_mem bs ho; exact okLp bs t, h1, h2⟩
theorem okJb (hT : ∀ s, shT (rdT bs s).1) (s : RS) (h1 : (rdJb bs s).1.cs.length ≤ 1048576) (h2 : (rdJb bs s).1.bs.length ≤ 1048576) : JbOk (rdJb bs s).1 :=
  ⟨hT _, okN bs _, okN bs _, okN bs _, okN bs _, fun o ho => by obtain ⟨t, rfl⟩ := rdL_mem bs ho; exact okN bs t, fun o ho => by obtain ⟨t, rfl⟩ := rdL_mem bs ho; exact okN bs t, h1, h2⟩
theorem okFl' (hn : bs.length ≤ 4194304) (h8 : ∀ v ∈ bs, v < 256) (hT : ∀ s, shT (rdT bs s).1) (s : RS) (hp : s.p ≤ bs.length) : FlOk (rdFl bs s).1 := by
  have m1 : Md bs.length (kflB bs) := (adT bs).md.comp (mdNs bs 5) (kdNs bs 5)
  have m2 : Md bs.length (kflD bs) := m1.comp (adL bs (adOp bs).md (kdOp bs)).md (kdL bs (kdOp bs))
  exact okFl bs h8 hT s (rdL_few' bs (adOp bs) _ hn (fun q => (m1 s q).2 hp)) (rdL_few' bs (adLp bs) _ hn (fun q => (m2 s q).2 hp))
theorem okJb' (hn : bs.length ≤ 4194304) (hT : ∀ s, shT (rdT bs s).1) (s : RS) (hp : s.p ≤ bs.length) : JbOk (rdJb bs s).1 := by
  have m1 : Md bs.length (kjbB bs) := (adT bs).md.comp (mdNs bs 3) (kdNs bs 3)
  have m2 : Md bs.length (kjbD bs) := m1.comp (adL bs (adN bs).md (kdN bs)).md (kdL bs (kdN bs))
  exact okJb bs hT s (rdL_few' bs (adN bs) _ hn (fun q => (m1 s q).2 hp)) (rdL_few' bs (adN bs) _ hn (fun q => (m2 s q).2 hp))
/-- What is read may be checked, wherever its texts are short enough. -/
theorem okIm (hn : bs.length ≤ 4194304) (h8 : ∀ v ∈ bs, v < 256) (hT : ∀ s, shT (rdT bs s).1) (s : RS) (hp : s.p ≤ bs.length) (hy : (rdIm bs s).2.y = 0) : ImOk (rdIm bs s).1 := by
  have m1 : Md bs.length (kimA bs) := (adT bs).md
  have m2 : Md bs.length (kimB bs) := m1.comp (adL bs (adCe bs).md (kdCe bs)).md (kdL bs (kdCe bs))
  have m3 : Md bs.length (kimD bs) := m2.comp (adL bs (adFl bs).md (kdFl bs)).md (kdL bs (kdFl bs))
  have y3 : (kimD bs s).y = 0 := (kdL bs (kdJb bs) _ hy).1
  have y2 : (kimB bs s).y = 0 := (kdL bs (kdFl bs) _ y3).1
  have y1 : (kimA bs s).y = 0 := (kdL bs (kdCe bs) _ y2).1
  have p1 := (m1 s y1).2 hp
  have p2 := (m2 s y2).2 hp
  have p3 := (m3 s y3).2 hp
  refine ⟨hT _, fun c hc => ?_, fun f hf => ?_, fun j hj => ?_, rdL_few' bs (adCe bs) _ hn (fun _ => p1), rdL_few' bs (adFl bs) _ hn (fun _ => p2), rdL_few' bs (adJb bs) _ hn (fun _ => p3)⟩
  · obtain ⟨t, rfl⟩ := rdL_mem bs hc; exact okCe bs h8 hT t
  · obtain ⟨t, tp, rfl⟩ := rdL_memP bs (adFl bs).md p2 hf; exact okFl' bs hn h8 hT t tp
  · obtain ⟨t, tp, rfl⟩ := rdL_memP bs (adJb bs).md p3 hj; exact okJb' bs hn hT t tp
end
end Go.Proofs.YtahgnmbkobiclaaGreat
namespace Go.Proofs.YtahgnmbkobiclaaGreat
set_option linter.unusedVariables false
open Go.RowKit
set_option maxHeartbeats 4000000 in
theorem mayCell_of (c : CeR) (h : CeOk c) (w : World) : Calls Tryz.prog 52 #[CeV c] w fun e w' => e = .returned (.bool (ceB c)) ∧ Below w.heap.size w w' := by
  have Q1 : Hid (∀ W, Calls Tryz.prog 98 #[CeV c] W fun e w' => e = .returned (.bool (bdB c)) ∧ Below W.heap.size W w') := fun W => mayBound_of c W
  have Q2 : Hid (∀ W, Calls Tryz.prog 99 #[CeV c] W fun e w' => e = .returned (.bool (bgB c)) ∧ Below W.heap.size W w') := fun W => mayBegin_of c h W
  have Q3 : Hid (1 ≤ c.kd ∧ c.kd ≤ 20 → ∀ W, Calls Tryz.prog 100 #[CeV c] W fun e w' => e = .returned (.bool (liB c)) ∧ Below W.heap.size W w') := fun hk W => mayLie_of c h hk W
  clear h
  unfold ceB
  generalize bdB c = r1 at *
  generalize bgB c = r2 at *
  generalize liB c = r3 at *
  obtain ⟨kd, sb, lo, hi, mx, ik, ib, is, kp, dr, ad⟩ := c
  simp only at Q3 ⊢
  unfold inB
  by_cases k1 : 1 ≤ kd
  case neg =>
    rw [decide_eq_false k1]
    go_enter Tryz.func52, Tryz.ntmps52
    go_wp2
    go_ret
    exact ⟨by simp, by go_grown⟩
  by_cases k2 : kd ≤ 20
  case neg =>
    rw [decide_eq_false k2]
    go_enter Tryz.func52, Tryz.ntmps52
    go_wp2
    go_ret
    exact ⟨by simp, by go_grown⟩
  have Q3 : Hid _ := Q3.out ⟨k1, k2⟩
  rw [decide_eq_true k1, decide_eq_true k2]
  by_cases k3 : kd = 20
  · subst k3
    rw [decide_eq_true rfl]
    cases kp
    case true =>
      go_enter Tryz.func52, Tryz.ntmps52
      go_wp2
      go_ret
      exact ⟨by simp, by go_grown⟩
    go_enter Tryz.func52, Tryz.ntmps52
    go_wp2_with fail
    refine (Q1.out _).mono ?_
    rintro e w1 ⟨rfl, hb⟩
    have B1 : Hid (Below w.heap.size w w1) := bl_tr (by go_grown) hb
    have X1 := (hb.block w.heap.size (by simp)).trans (heap_alloc_last w _)
    have XX : Hid _ := X1
    have z1 : w.heap.size < w1.heap.size := blk_in X1
    have k0 : w1.cell? ⟨w.heap.size, 0, none⟩ = some (.int .u8 20) := by simp [World.cell?, X1]
    have k1 : w1.cell? ⟨w.heap.size, 1, none⟩ = some (.bool sb) := by simp [World.cell?, X1]
    have k2 : w1.cell? ⟨w.heap.size, 2, none⟩ = some (.int .i64 lo) := by simp [World.cell?, X1]
    have k3 : w1.cell? ⟨w.heap.size, 3, none⟩ = some (.int .i64 hi) := by simp [World.cell?, X1]
    have k4 : w1.cell? ⟨w.heap.size, 4, none⟩ = some (.int .i64 mx) := by simp [World.cell?, X1]
    have k5 : w1.cell? ⟨w.heap.size, 5, none⟩ = some (.int .u8 ik) := by simp [World.cell?, X1]
    have k6 : w1.cell? ⟨w.heap.size, 6, none⟩ = some (.int .u64 ib) := by simp [World.cell?, X1]
    have k7 : w1.cell? ⟨w.heap.size, 7, none⟩ = some (.string is) := by simp [World.cell?, X1]
    have k8 : w1.cell? ⟨w.heap.size, 8, none⟩ = some (.bool false) := by simp [World.cell?, X1]
    have k9 : w1.cell? ⟨w.heap.size, 9, none⟩ = some (.int .i64 dr) := by simp [World.cell?, X1]
    have k10 : w1.cell? ⟨w.heap.size, 10, none⟩ = some (.string ad) := by simp [World.cell?, X1]
    clear hb X1
    cases r1
    · go_wp2
      go_ret
      exact ⟨by simp, B1.out⟩
    go_wp2_with fail
    refine (Q2.out _).mono ?_
    rintro e w2 ⟨rfl, hb⟩
    have B2 : Hid (Below w.heap.size w w2) := bl_tr B1.out hb
    have X2 := (hb.block w.heap.size z1).trans XX.out
    clear k0 k1 k2 k3 k4 k5 k6 k7 k8 k9 k10 XX
    have k0 : w2.cell? ⟨w.heap.size, 0, none⟩ = some (.int .u8 20) := by simp [World.cell?, X2]
    have k1 : w2.cell? ⟨w.heap.size, 1, none⟩ = some (.bool sb) := by simp [World.cell?, X2]
    have k2 : w2.cell? ⟨w.heap.size, 2, none⟩ = some (.int .i64 lo) := by simp [World.cell?, X2]
    have k3 : w2.cell? ⟨w.heap.size, 3, none⟩ = some (.int .i64 hi) := by simp [World.cell?, X2]
    have k4 : w2.cell? ⟨w.heap.size, 4, none⟩ = some (.int .i64 mx) := by simp [World.cell?, X2]
    have k5 : w2.cell? ⟨w.heap.size, 5, none⟩ = some (.int .u8 ik) := by simp [World.cell?, X2]
    have k6 : w2.cell? ⟨w.heap.size, 6, none⟩ = some (.int .u64 ib) := by simp [World.cell?, X2]
    have k7 : w2.cell? ⟨w.heap.size, 7, none⟩ = some (.string is) := by simp [World.cell?, X2]
    have k8 : w2.cell? ⟨w.heap.size, 8, none⟩ = some (.bool false) := by simp [World.cell?, X2]
    have k9 : w2.cell? ⟨w.heap.size, 9, none⟩ = some (.int .i64 dr) := by simp [World.cell?, X2]
    have k10 : w2.cell? ⟨w.heap.size, 10, none⟩ = some (.string ad) := by simp [World.cell?, X2]
    clear hb X2
    cases r2
    · go_wp2
      go_ret
      exact ⟨by simp, B2.out⟩
    go_wp2_with fail
    refine (Q3.out _).mono ?_
    rintro e w3 ⟨rfl, hb⟩
    have B3 : Hid (Below w.heap.size w w3) := bl_tr B2.out hb
    clear hb k0 k1 k2 k3 k4 k5 k6 k7 k8 k9 k10
    cases r3
    all_goals
      go_wp2
      go_ret
      exact ⟨by simp, B3.out⟩
  · rw [decide_eq_false k3]
    have p3 : (kd == 20) = false := by simp [k3]
    clear k3
    go_enter Tryz.func52, Tryz.ntmps52
    go_wp2_with fail
    refine (Q1.out _).mono ?_
    rintro e w1 ⟨rfl, hb⟩
    have B1 : Hid (Below w.heap.size w w1) := bl_tr (by go_grown) hb
    have X1 := (hb.block w.heap.size (by simp)).trans (heap_alloc_last w _)
    have XX : Hid _ := X1
    have z1 : w.heap.size < w1.heap.size := blk_in X1
    have k0 : w1.cell? ⟨w.heap.size, 0, none⟩ = some (.int .u8 kd) := by simp [World.cell?, X1]
    have k1 : w1.cell? ⟨w.heap.size, 1, none⟩ = some (.bool sb) := by simp [World.cell?, X1]
    have k2 : w1.cell? ⟨w.heap.size, 2, none⟩ = some (.int .i64 lo) := by simp [World.cell?, X1]
    have k3 : w1.cell? ⟨w.heap.size, 3, none⟩ = some (.int .i64 hi) := by simp [World.cell?, X1]
    have k4 : w1.cell? ⟨w.heap.size, 4, none⟩ = some (.int .i64 mx) := by simp [World.cell?, X1]
    have k5 : w1.cell? ⟨w.heap.size, 5, none⟩ = some (.int .u8 ik) := by simp [World.cell?, X1]
    have k6 : w1.cell? ⟨w.heap.size, 6, none⟩ = some (.int .u64 ib) := by simp [World.cell?, X1]
    have k7 : w1.cell? ⟨w.heap.size, 7, none⟩ = some (.string is) := by simp [World.cell?, X1]
    have k8 : w1.cell? ⟨w.heap.size, 8, none⟩ = some (.bool kp) := by simp [World.cell?, X1]
    have k9 : w1.cell? ⟨w.heap.size, 9, none⟩ = some (.int .i64 dr) := by simp [World.cell?, X1]
    have k10 : w1.cell? ⟨w.heap.size, 10, none⟩ = some (.string ad) := by simp [World.cell?, X1]
    clear hb X1
    cases r1
    · go_wp2
      go_ret
      exact ⟨by simp, B1.out⟩
    go_wp2_with fail
    refine (Q2.out _).mono ?_
    rintro e w2 ⟨rfl, hb⟩
    have B2 : Hid (Below w.heap.size w w2) := bl_tr B1.out hb
    have X2 := (hb.block w.heap.size z1).trans XX.out
    clear k0 k1 k2 k3 k4 k5 k6 k7 k8 k9 k10 XX
    have k0 : w2.cell? ⟨w.heap.size, 0, none⟩ = some (.int .u8 kd) := by simp [World.cell?, X2]
    have k1 : w2.cell? ⟨w.heap.size, 1, none⟩ = some (.bool sb) := by simp [World.cell?, X2]
    have k2 : w2.cell? ⟨w.heap.size, 2, none⟩ = some (.int .i64 lo) := by simp [World.cell?, X2]
    have k3 : w2.cell? ⟨w.heap.size, 3, none⟩ = some (.int .i64 hi) := by simp [World.cell?, X2]
    have k4 : w2.cell? ⟨w.heap.size, 4, none⟩ = some (.int .i64 mx) := by simp [World.cell?, X2]
    have k5 : w2.cell? ⟨w.heap.size, 5, none⟩ = some (.int .u8 ik) := by simp [World.cell?, X2]
    have k6 : w2.cell? ⟨w.heap.size, 6, none⟩ = some (.int .u64 ib) := by simp [World.cell?, X2]
    have k7 : w2.cell? ⟨w.heap.size, 7, none⟩ = some (.string is) := by simp [World.cell?, X2]
    have k8 : w2.cell? ⟨w.heap.size, 8, none⟩ = some (.bool kp) := by simp [World.cell?, X2]
    have k9 : w2.cell? ⟨w.heap.size, 9, none⟩ = some (.int .i64 dr) := by simp [World.cell?, X2]
    have k10 : w2.cell? ⟨w.heap.size, 10, none⟩ = some (.string ad) := by simp [World.cell?, X2]
    clear hb X2
    cases r2
    · go_wp2
      go_ret
      exact ⟨by simp, B2.out⟩
    go_wp2_with fail
    refine (Q3.out _).mono ?_
    rintro e w3 ⟨rfl, hb⟩
    have B3 : Hid (Below w.heap.size w w3) := bl_tr B2.out hb
    clear hb k0 k1 k2 k3 k4 k5 k6 k7 k8 k9 k10
    cases r3
    all_goals
      go_wp2
      go_ret
      exact ⟨by simp, B3.out⟩
/-- A set of texts that a call has made. -/
def SetS (w : World) (b n : Nat) (l : List ByteArray) : Prop := ∃ D : DataW Unit, w.ownsMap Tryz.prog 9 unitElem b n D ∧ ∀ s : ByteArray, Maps.has D (.string s.data.toList) = l.any (fun x => decide (x = s))
theorem mk_map (w : World) : (Instr.makeMap 99 none).run Tryz.prog w = .ok (.map (some w.heap.size)) (w.alloc (.map #[] 0)) := rfl
theorem zeroU (w : World) : (zeroValue 100).run Tryz.prog w = .ok (.agg #[]) w := by kernel_rfl
theorem SetS.made (w : World) : SetS (w.alloc (.map #[] 0)) w.heap.size 0 [] := ⟨.map [], World.ownsMap_made w _ _ _, fun s => rfl⟩
theorem SetS.below {w w' : World} {b n : Nat} {l : List ByteArray} (h : SetS w b n l) (hb : Below w.heap.size w w') : SetS w' b n l := by
  obtain ⟨D, h1, h2⟩ := h
  exact ⟨D, h1.kept (row := none) ⟨hb.os, hb.tape, hb.output, hb.size, fun k hk _ => hb.block k hk⟩ (by simp), h2⟩
theorem SetS.lt {w : World} {b n : Nat} {l : List ByteArray} (h : SetS w b n l) : b < w.heap.size := by obtain ⟨D, h1, _⟩ := h; exact h1.lt
theorem keyS (s : ByteArray) (h : s.size ≤ maxLen) : keyOf Tryz.prog 9 (.string s) = some (.string s.data.toList) := WideMaps.keyOf_string_mk Tryz.underlying9 h
theorem ba_list {a b : ByteArray} (h : a.data.toList = b.data.toList) : a = b := by
  cases a; cases b
  exact congrArg ByteArray.mk (Array.toList_inj.1 h)
theorem SetS.put {w w' : World} {b n : Nat} {l : List ByteArray} {D : DataW Unit} (h1 : w.ownsMap Tryz.prog 9 unitElem b n D) (h2 : ∀ s : ByteArray, Maps.has D (.string s.data.toList) = l.any (fun x => decide (x = s))) (s : ByteArray)
    (h : w'.ownsMap Tryz.prog 9 unitElem b (n + 1) (D.put (.string s.data.toList) (.agg []))) : SetS w' b (n + 1) (l ++ [s]) := by
  refine ⟨_, h, fun t => ?_⟩
  rw [List.any_append]
  by_cases e : t = s
  · subst e
    rw [Maps.has_put_same h1.isMap (by simp [WideAt.IsKeyLit])]
    simp
  · rw [Maps.has_put_other (fun q => e (ba_list (by simpa using q))), h2 t]
    have : (s = t) = False := by simp; exact fun q => e q.symm
    simp [this]
end Go.Proofs.YtahgnmbkobiclaaGreat
