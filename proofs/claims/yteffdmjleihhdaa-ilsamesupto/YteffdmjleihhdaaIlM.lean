/- The document's sameness of instructions; no statement of the seat is proved here. -/
import Derived.Test.YteffdmjleihhdaaIlK
import Derived.Test.YteffdmjleihhdaaIlG
namespace Go.Proofs.Yteffdmjleihhdaa
set_option linter.unusedVariables false
open Go.RowKit
/-- The call that the document compares an instruction as. -/
def ilSp (t : Il) : St := .mk ⟨10, 0, t.h.nm, 0, 0, 0, 0⟩ t.ag (pad t.ag.length t.ns) t.os t.on [] [] []
theorem few_pad {n : Nat} {ns : List ByteArray} (h1 : few n) (h2 : few ns.length) : few (pad n ns).length := by
  show (pad n ns).length < _
  unfold pad
  simp
  omega
theorem smL_lens {α : Type} (f : α → α → Bool) (l l' : List α) (h : smL f l l' = true) : l.length = l'.length := by
  apply Classical.byContradiction
  intro q
  rw [smL_len f l l' q] at h
  cases h
theorem pad_inj {n : Nat} {a b : List ByteArray} (h : a.length = b.length) : (pad n a = pad n b) ↔ a = b := by
  constructor
  · intro e
    unfold pad at e
    exact (List.append_inj e h).1
  · intro e; rw [e]
/-- Names that are filled up are the same just if they were. -/
theorem smI_pad (d : Nat) (t t' : Il) : smI d t t' = ((hdI t.h t'.h && (t.h.nm.toList == t'.h.nm.toList) && decide (t.ns.length = t'.ns.length)) && smL (smS (d + 1)) [ilSp t] [ilSp t']) := by
  unfold smI ilS ilSp
  simp only [smL, smS, hdT, Bool.and_true]
  cases hE : smL (smE d) t.ag t'.ag
  · simp
  · have el := smL_lens _ _ _ hE
    by_cases hl : t.ns.length = t'.ns.length
    · have e : decide (pad t.ag.length t.ns = pad t'.ag.length t'.ns) = decide (t.ns = t'.ns) := by
        rw [el]
        exact decide_eq_decide.2 (pad_inj hl)
      rw [e, decide_eq_true hl]
      cases hdI t.h t'.h <;> cases (t.h.nm.toList == t'.h.nm.toList) <;> simp
    · have e : decide (t.ns = t'.ns) = false := decide_eq_false fun q => hl (by rw [q])
      rw [e, decide_eq_false hl]
      simp
theorem two_up {n : Nat} {a w : World} (h : Below n a w) (q : n ≤ w.heap.size) (X Y : Obj) : Below n a ((w.alloc X).alloc Y) := (h.alloc q X).alloc (by simp; omega) Y
set_option maxRecDepth 20000 in
set_option maxHeartbeats 16000000 in
theorem sameDI (d : Nat) (x y : Option Addr) (l l' : List Il) (c c2 : Nat) (w : World) (ha : IlL (fun b => b < w.heap.size) d w x l) (hb : IlL (fun b => b < w.heap.size) d w y l') :
    Calls Try.prog 6 #[.slice x l.length c, .slice y l'.length c2] w fun e w' => e = .returned (.bool (smL (smI d) l l')) ∧ Below w.heap.size w w' := by
  have HA : Hid (IlL (fun b => b < w.heap.size) d w x l) := ha
  have HB : Hid (IlL (fun b => b < w.heap.size) d w y l') := hb
  clear ha hb
  by_cases el : l.length = l'.length
  · generalize hn : l'.length = n at *
    have HN : Hid _ := hn
    clear hn
    subst el
    go_enter Try.func6, Try.ntmps6
    go_wp2_with fail
    go_loopw [5] (fun i wr => ∃ k : Nat, k ≤ l.length ∧ i = .int .i64 k ∧ Below w.heap.size w wr ∧ ∀ (j : Nat) e e', j < k → l[j]? = some e → l'[j]? = some e' → smI d e e' = true) (fun i _ => l.length - (intOf i).toNat)
    case atStart => exact ⟨0, Nat.zero_le _, rfl, Below.refl _ _, fun j _ _ hj => absurd hj (Nat.not_lt_zero _)⟩
    case round =>
      obtain ⟨k, hk, rfl, hbw, hall⟩ := hrel
      have HW : Hid (Below w.heap.size w wr) := hbw
      have AL : Hid (∀ (j : Nat) e e', j < k → l[j]? = some e → l'[j]? = some e' → smI d e e' = true) := hall
      clear hall
      by_cases hlt : k < l.length
      · obtain ⟨a, rfl⟩ : ∃ a, x = some a := by
          cases x with
          | none => have := HA.out.2.1 rfl; rw [this] at hlt; exact absurd hlt (Nat.not_lt_zero _)
          | some a => exact ⟨a, rfl⟩
        obtain ⟨b, rfl⟩ : ∃ b, y = some b := by
          cases y with
          | none => have := HB.out.2.1 rfl; have q := HN.out; rw [this] at q; simp at q; omega
          | some b => exact ⟨b, rfl⟩
        obtain ⟨t1, p10, q10, p11, q11, p12, q12, p13, q13, ee1, hp1, ec1, ev1⟩ := (HA.out.fr (old_fr hbw)).el k hlt
        obtain ⟨t2, p20, q20, p21, q21, p22, q22, p23, q23, ee2, hp2, ec2, ev2⟩ := (HB.out.fr (old_fr hbw)).el k (by have := HN.out; omega)
        have E1 : Hid (l[k]? = some t1) := ee1
        have E2 : Hid (l'[k]? = some t2) := ee2
        have V1 : Hid (IlP (fun b => b < w.heap.size) d wr p10 p11 p12 p13 t1) := ev1
        have V2 : Hid (IlP (fun b => b < w.heap.size) d wr p20 p21 p22 p23 t2) := ev2
        have LT : Hid (k < l.length) := hlt
        have kl : (k : Int) < l.length := by omega
        obtain ⟨x0, x1, x2, x3, x4, x5, x6, x7, x8, x9, x10⟩ := ec1
        obtain ⟨y0, y1, y2, y3, y4, y5, y6, y7, y8, y9, y10⟩ := ec2
        clear hbw hlt ee1 ee2 ev1 ev2 hp1 hp2
        have za := block_lt_of_cell x0
        have zb := block_lt_of_cell y0
        go_upto_region 8 with fail
        obtain ⟨W, eW⟩ : ∃ W, W = (wr.alloc (.cells #[.int .i64 t1.h.pl, .string t1.h.lb, .string t1.h.op, .bool t1.h.nt, .bool t1.h.cd, .bool t1.h.ob, .string t1.h.nm, .slice p10 t1.ag.length q10, .slice p11 t1.ns.length q11, .slice p12 t1.os.length q12, .slice p13 t1.on.length q13] 28)).alloc (.cells #[.int .i64 t2.h.pl, .string t2.h.lb, .string t2.h.op, .bool t2.h.nt, .bool t2.h.cd, .bool t2.h.ob, .string t2.h.nm, .slice p20 t2.ag.length q20, .slice p21 t2.ns.length q21, .slice p22 t2.os.length q22, .slice p23 t2.on.length q23] 28) := ⟨_, rfl⟩
        have OX : Hid (W.heap[wr.heap.size]? = some (.cells #[.int .i64 t1.h.pl, .string t1.h.lb, .string t1.h.op, .bool t1.h.nt, .bool t1.h.cd, .bool t1.h.ob, .string t1.h.nm, .slice p10 t1.ag.length q10, .slice p11 t1.ns.length q11, .slice p12 t1.os.length q12, .slice p13 t1.on.length q13] 28)) := by rw [eW]; exact (rowsB wr _ _).1
        have OY : Hid (W.heap[wr.heap.size + 1]? = some (.cells #[.int .i64 t2.h.pl, .string t2.h.lb, .string t2.h.op, .bool t2.h.nt, .bool t2.h.cd, .bool t2.h.ob, .string t2.h.nm, .slice p20 t2.ag.length q20, .slice p21 t2.ns.length q21, .slice p22 t2.os.length q22, .slice p23 t2.on.length q23] 28)) := by rw [eW]; exact (rowsB wr _ _).2
        have OB : Hid (Below wr.heap.size wr W) := by rw [eW]; exact ((Below.refl _ _).alloc (Nat.le_refl _) _).alloc (by simp) _
        rw [← eW]
        clear eW x0 x1 x2 x3 x4 x5 x6 x7 x8 x9 x10 y0 y1 y2 y3 y4 y5 y6 y7 y8 y9 y10 za zb
        obtain ⟨Oa0, Oa1, Oa2, Oa3, Oa4, Oa5, Oa6, Oa7, Oa8, Oa9, Oa10⟩ := cells11 OX.out
        obtain ⟨Ob0, Ob1, Ob2, Ob3, Ob4, Ob5, Ob6, Ob7, Ob8, Ob9, Ob10⟩ := cells11 OY.out
        go_cut [75] (fun s75 wx => s75 = .bool (!(hdI t1.h t2.h && (t1.h.nm.toList == t2.h.nm.toList) && decide (t1.ns.length = t2.ns.length))) ∧ wx.heap[wr.heap.size]? = some (.cells #[.int .i64 t1.h.pl, .string t1.h.lb, .string t1.h.op, .bool t1.h.nt, .bool t1.h.cd, .bool t1.h.ob, .string t1.h.nm, .slice p10 t1.ag.length q10, .slice p11 t1.ns.length q11, .slice p12 t1.os.length q12, .slice p13 t1.on.length q13] 28) ∧ wx.heap[wr.heap.size + 1]? = some (.cells #[.int .i64 t2.h.pl, .string t2.h.lb, .string t2.h.op, .bool t2.h.nt, .bool t2.h.cd, .bool t2.h.ob, .string t2.h.nm, .slice p20 t2.ag.length q20, .slice p21 t2.ns.length q21, .slice p22 t2.os.length q22, .slice p23 t2.on.length q23] 28) ∧ Below wr.heap.size wr wx)
        case first =>
          cases f1 : (t1.h.lb.toList == t2.h.lb.toList)
          · have f1' : (t1.h.lb.toList != t2.h.lb.toList) = true := by simp [bne, f1]
            go_wp2_with fail
            go_meet
            case rel => exact ⟨by simp [hdI, *], OX.out, OY.out, OB.out⟩
          · have f1' : (t1.h.lb.toList != t2.h.lb.toList) = false := by simp [bne, f1]
            cases f2 : (t1.h.op.toList == t2.h.op.toList)
            · have f2' : (t1.h.op.toList != t2.h.op.toList) = true := by simp [bne, f2]
              go_wp2_with fail
              go_meet
              case rel => exact ⟨by simp [hdI, *], OX.out, OY.out, OB.out⟩
            · have f2' : (t1.h.op.toList != t2.h.op.toList) = false := by simp [bne, f2]
              cases f3 : (t1.h.nt == t2.h.nt)
              · have f3' : (t1.h.nt != t2.h.nt) = true := by simp [bne, f3]
                go_wp2_with fail
                go_meet
                case rel => exact ⟨by simp [hdI, *], OX.out, OY.out, OB.out⟩
              · have f3' : (t1.h.nt != t2.h.nt) = false := by simp [bne, f3]
                cases f4 : (t1.h.cd == t2.h.cd)
                · have f4' : (t1.h.cd != t2.h.cd) = true := by simp [bne, f4]
                  go_wp2_with fail
                  go_meet
                  case rel => exact ⟨by simp [hdI, *], OX.out, OY.out, OB.out⟩
                · have f4' : (t1.h.cd != t2.h.cd) = false := by simp [bne, f4]
                  cases f5 : (t1.h.ob == t2.h.ob)
                  · have f5' : (t1.h.ob != t2.h.ob) = true := by simp [bne, f5]
                    go_wp2_with fail
                    go_meet
                    case rel => exact ⟨by simp [hdI, *], OX.out, OY.out, OB.out⟩
                  · have f5' : (t1.h.ob != t2.h.ob) = false := by simp [bne, f5]
                    cases f6 : (t1.h.nm.toList == t2.h.nm.toList)
                    · have f6' : (t1.h.nm.toList != t2.h.nm.toList) = true := by simp [bne, f6]
                      go_wp2_with fail
                      go_meet
                      case rel => exact ⟨by simp [hdI, *], OX.out, OY.out, OB.out⟩
                    · have f6' : (t1.h.nm.toList != t2.h.nm.toList) = false := by simp [bne, f6]
                      by_cases f7 : t1.ns.length = t2.ns.length
                      · have f7' : (((t1.ns.length : Nat) : Int) != ((t2.ns.length : Nat) : Int)) = false := by simp [bne, f7]
                        go_wp2_with fail
                        go_meet
                        case rel => exact ⟨by simp [hdI, *], OX.out, OY.out, OB.out⟩
                      · have f7' : (((t1.ns.length : Nat) : Int) != ((t2.ns.length : Nat) : Int)) = true := by simp [bne]; omega
                        go_wp2_with fail
                        go_meet
                        case rel => exact ⟨by simp [hdI, *], OX.out, OY.out, OB.out⟩
        case rest =>
          obtain ⟨rfl, bx, bz, hb⟩ := hcut
          clear OX OY OB Oa0 Ob0 Oa1 Ob1 Oa2 Ob2 Oa3 Ob3 Oa4 Ob4 Oa5 Ob5 Oa6 Ob6 Oa7 Ob7 Oa8 Ob8 Oa9 Ob9 Oa10 Ob10 W
          have OX : Hid (wc.heap[wr.heap.size]? = some (.cells #[.int .i64 t1.h.pl, .string t1.h.lb, .string t1.h.op, .bool t1.h.nt, .bool t1.h.cd, .bool t1.h.ob, .string t1.h.nm, .slice p10 t1.ag.length q10, .slice p11 t1.ns.length q11, .slice p12 t1.os.length q12, .slice p13 t1.on.length q13] 28)) := bx
          have OY : Hid (wc.heap[wr.heap.size + 1]? = some (.cells #[.int .i64 t2.h.pl, .string t2.h.lb, .string t2.h.op, .bool t2.h.nt, .bool t2.h.cd, .bool t2.h.ob, .string t2.h.nm, .slice p20 t2.ag.length q20, .slice p21 t2.ns.length q21, .slice p22 t2.os.length q22, .slice p23 t2.on.length q23] 28)) := bz
          have OB : Hid (Below wr.heap.size wr wc) := hb
          have BC : Hid (Below wr.heap.size wr wc) := hb
          clear bx bz hb
          obtain ⟨W, eW⟩ : ∃ W, W = wc := ⟨_, rfl⟩
          rw [← eW] at OX OY OB BC ⊢
          clear eW
          obtain ⟨Oa0, Oa1, Oa2, Oa3, Oa4, Oa5, Oa6, Oa7, Oa8, Oa9, Oa10⟩ := cells11 OX.out
          obtain ⟨Ob0, Ob1, Ob2, Ob3, Ob4, Ob5, Ob6, Ob7, Ob8, Ob9, Ob10⟩ := cells11 OY.out
          have FR : Hid (∀ V, Below wr.heap.size wr V → FrS (fun b => b < w.heap.size) wr V) := fun V hb q hq => hb.cell (Nat.lt_of_lt_of_le hq HW.out.size)
          have FS : Hid (∀ V, Below wr.heap.size wr V → ∀ b, b < w.heap.size → b < V.heap.size) := fun V hb b q => Nat.lt_of_lt_of_le q (Nat.le_trans HW.out.size hb.size)
          have S1 : Hid (∀ V, Below wr.heap.size wr V → Calls Try.prog 13 #[IV t1.h (.slice p10 t1.ag.length q10) (.slice p11 t1.ns.length q11) (.slice p12 t1.os.length q12) (.slice p13 t1.on.length q13)] V fun e w' => (∃ y c, e = .returned (CV t1.h (.slice p10 t1.ag.length q10) (.slice y (pad t1.ag.length t1.ns).length c) (.slice p12 t1.os.length q12) (.slice p13 t1.on.length q13)) ∧ NmF (Fresh V.heap.size w'.heap.size) w' y (pad t1.ag.length t1.ns)) ∧ Below V.heap.size V w') := fun V hb => statement_of t1.h _ _ _ _ _ _ _ _ _ _ _ t1.ns V (V1.out.2.1.1.fr (FR.out V hb)).1 V1.out.2.1.2 V1.out.1.1
          have S2 : Hid (∀ V, Below wr.heap.size wr V → Calls Try.prog 13 #[IV t2.h (.slice p20 t2.ag.length q20) (.slice p21 t2.ns.length q21) (.slice p22 t2.os.length q22) (.slice p23 t2.on.length q23)] V fun e w' => (∃ y c, e = .returned (CV t2.h (.slice p20 t2.ag.length q20) (.slice y (pad t2.ag.length t2.ns).length c) (.slice p22 t2.os.length q22) (.slice p23 t2.on.length q23)) ∧ NmF (Fresh V.heap.size w'.heap.size) w' y (pad t2.ag.length t2.ns)) ∧ Below V.heap.size V w') := fun V hb => statement_of t2.h _ _ _ _ _ _ _ _ _ _ _ t2.ns V (V2.out.2.1.1.fr (FR.out V hb)).1 V2.out.2.1.2 V2.out.1.1
          have HP : Hid (∀ V g1 g2 y1 k1 y2 k2, Below wr.heap.size wr V → V.heap[g1]? = some (.cells #[.int .i64 10, .int .i64 0, .string t1.h.nm, .int .i64 0, .slice p10 t1.ag.length q10, .slice y1 (pad t1.ag.length t1.ns).length k1, .slice p12 t1.os.length q12, .slice p13 t1.on.length q13, .slice none 0 0, .slice none 0 0, .slice none 0 0, .int .u8 0, .int .i64 0, .int .i64 0] 38) → V.heap[g2]? = some (.cells #[.int .i64 10, .int .i64 0, .string t2.h.nm, .int .i64 0, .slice p20 t2.ag.length q20, .slice y2 (pad t2.ag.length t2.ns).length k2, .slice p22 t2.os.length q22, .slice p23 t2.on.length q23, .slice none 0 0, .slice none 0 0, .slice none 0 0, .int .u8 0, .int .i64 0, .int .i64 0] 38) → NmF (fun b => b < V.heap.size) V y1 (pad t1.ag.length t1.ns) → NmF (fun b => b < V.heap.size) V y2 (pad t2.ag.length t2.ns) → Calls Try.prog 12 #[.slice (some ⟨g1, 0, none⟩) 1 1, .slice (some ⟨g2, 0, none⟩) 1 1] V fun e w' => e = .returned (.bool (smL (smS (d + 1)) [ilSp t1] [ilSp t2])) ∧ Below V.heap.size V w') := fun V g1 g2 y1 k1 y2 k2 hb b1 b2 hy1 hy2 => by
            have u1 := (V1.out.fr (FR.out V hb)).sub (FS.out V hb)
            have u2 := (V2.out.fr (FR.out V hb)).sub (FS.out V hb)
            exact sdL_of (d + 1) V _ _ [ilSp t1] [ilSp t2] 1 1 (one_row (lt_of_block b1) b1 u1.1 hy1 (few_pad u1.1.1 u1.2.1.2) u1.2.2.1 u1.2.2.2.1 u1.2.2.2.2) (one_row (lt_of_block b2) b2 u2.1 hy2 (few_pad u2.1.1 u2.2.1.2) u2.2.2.1 u2.2.2.2.1 u2.2.2.2.2)
          have FE : Hid (smI d t1 t2 = ((hdI t1.h t2.h && (t1.h.nm.toList == t2.h.nm.toList) && decide (t1.ns.length = t2.ns.length)) && smL (smS (d + 1)) [ilSp t1] [ilSp t2])) := smI_pad d t1 t2
          generalize smL (smS (d + 1)) [ilSp t1] [ilSp t2] = r at HP FE
          clear V1 V2 FR FS
          cases pass : (hdI t1.h t2.h && (t1.h.nm.toList == t2.h.nm.toList) && decide (t1.ns.length = t2.ns.length))
          · clear S1 S2 HP
            have ed := smL_bad (smI d) l l' k _ _ E1.out E2.out (by rw [FE.out]; exact by rw [pass]; rfl)
            clear FE pass
            go_wp2
            go_ret
            exact ⟨by first | rfl | (rw [ed]; rfl), HW.out.trans (BC.out.mono HW.out.size)⟩
          · go_upto_region 10 with fail
            go_cut [83] (fun s83 wx => s83 = .bool (!r) ∧ Below wr.heap.size wr wx)
            case first =>
              clear FE E1 E2 AL pass
              refine wp_region_held_drew (S := (fun V => V.heap[wr.heap.size]? = some (.cells #[.int .i64 t1.h.pl, .string t1.h.lb, .string t1.h.op, .bool t1.h.nt, .bool t1.h.cd, .bool t1.h.ob, .string t1.h.nm, .slice p10 t1.ag.length q10, .slice p11 t1.ns.length q11, .slice p12 t1.os.length q12, .slice p13 t1.on.length q13] 28) ∧ V.heap[wr.heap.size + 1]? = some (.cells #[.int .i64 t2.h.pl, .string t2.h.lb, .string t2.h.op, .bool t2.h.nt, .bool t2.h.cd, .bool t2.h.ob, .string t2.h.nm, .slice p20 t2.ag.length q20, .slice p21 t2.ns.length q21, .slice p22 t2.os.length q22, .slice p23 t2.on.length q23] 28))) (by kernel_rfl) ⟨OX.out, OY.out⟩ (fun hHeld => ?_)
              refine wpAnyH_take (i := 0) (v := .agg ([.int .i64 t1.h.pl, .string t1.h.lb, .string t1.h.op, .bool t1.h.nt, .bool t1.h.cd, .bool t1.h.ob, .string t1.h.nm, .slice p10 t1.ag.length q10, .slice p11 t1.ns.length q11, .slice p12 t1.os.length q12, .slice p13 t1.on.length q13] : List Value).toArray) rfl (by kernel_rfl) (by kernel_rfl) (by kernel_rfl) (fun _ _ _ h => h) (Or.inl ⟨by rfl, fun V hV => ?_⟩) hHeld ?_
              · obtain ⟨d0, d1, d2, d3, d4, d5, d6, d7, d8, d9, d10⟩ := cells11 (hV.1)
                go_simp
              simp only [Act.put, List.setIfInBounds_toArray]
              refine wpAnyH_take (i := 3) (v := .agg ([.int .i64 t2.h.pl, .string t2.h.lb, .string t2.h.op, .bool t2.h.nt, .bool t2.h.cd, .bool t2.h.ob, .string t2.h.nm, .slice p20 t2.ag.length q20, .slice p21 t2.ns.length q21, .slice p22 t2.os.length q22, .slice p23 t2.on.length q23] : List Value).toArray) rfl (by kernel_rfl) (by kernel_rfl) (by kernel_rfl) (fun _ _ _ h => h) (Or.inl ⟨by rfl, fun V hV => ?_⟩) hHeld ?_
              · obtain ⟨d0, d1, d2, d3, d4, d5, d6, d7, d8, d9, d10⟩ := cells11 (hV.2)
                go_simp
              simp only [Act.put]
              refine wpAnyH_ready (rs := [1]) (by kernel_rfl) (by simp) ?_
              refine AllReadyH.cons (o := _) rfl (fun K hK => ?_) AllReadyH.nil
              go_simp
              refine (S1.out _ OB.out.drew).mono ?_
              rintro e w1 ⟨⟨y1, k1, rfl, hf1⟩, hb1⟩
              obtain ⟨PX, PY, PB⟩ := stay (W := wr) (V := W.drew) OX.out OY.out OB.out.drew hb1
              have PF : NmF (fun b => b < w1.heap.size) w1 y1 (pad t1.ag.length t1.ns) := hf1.sub fun b q => q.2
              refine hK.out _ _ ⟨PX, PY⟩ (fun hHeld => ?_)
              clear hK K hf1 hb1
              refine wpAnyH_ready (rs := [2, 4]) (by kernel_rfl) (by simp) ?_
              refine AllReadyH.cons (o := _) rfl (fun K hK => ?_) (AllReadyH.cons (o := _) rfl (fun K hK => ?_) AllReadyH.nil)
              · go_simp
                refine hK.out _ _ ⟨(Below.heap_alloc _ _ _ (lt_of_block PX)).trans PX, (Below.heap_alloc _ _ _ (lt_of_block PY)).trans PY⟩ (fun hHeld => ?_)
                clear hK K
                refine wpAnyH_ready (rs := [4]) (by kernel_rfl) (by simp) ?_
                refine AllReadyH.cons (o := _) rfl (fun K hK => ?_) AllReadyH.nil
                go_simp
                refine (S2.out (w1.alloc (.cells #[.int .i64 10, .int .i64 0, .string t1.h.nm, .int .i64 0, .slice p10 t1.ag.length q10, .slice y1 (pad t1.ag.length t1.ns).length k1, .slice p12 t1.os.length q12, .slice p13 t1.on.length q13, .slice none 0 0, .slice none 0 0, .slice none 0 0, .int .u8 0, .int .i64 0, .int .i64 0] 38)) (PB.alloc PB.size _)).mono ?_
                rintro e w2 ⟨⟨y2, k2, rfl, hf2⟩, hb2⟩
                obtain ⟨QX, QY, QB⟩ := stayA PX PY PB hb2
                have QD : Below w1.heap.size w1 w2 := ((Below.refl _ _).alloc (Nat.le_refl _) _).trans (hb2.mono (by simp))
                have HA2 : w2.heap[w1.heap.size]? = some (.cells #[.int .i64 10, .int .i64 0, .string t1.h.nm, .int .i64 0, .slice p10 t1.ag.length q10, .slice y1 (pad t1.ag.length t1.ns).length k1, .slice p12 t1.os.length q12, .slice p13 t1.on.length q13, .slice none 0 0, .slice none 0 0, .slice none 0 0, .int .u8 0, .int .i64 0, .int .i64 0] 38) := (hb2.block _ (by simp)).trans (heap_alloc_last w1 _)
                have QF : NmF (fun b => b < w2.heap.size) w2 y2 (pad t2.ag.length t2.ns) := hf2.sub fun b q => q.2
                refine hK.out _ _ ⟨QX, QY⟩ (fun hHeld => ?_)
                clear hK K hf2 hb2
                refine wpAnyH_ready (rs := [5]) (by kernel_rfl) (by simp) ?_
                refine AllReadyH.cons (o := _) rfl (fun K hK => ?_) AllReadyH.nil
                go_simp
                refine hK.out _ _ ⟨(Below.heap_alloc _ _ _ (lt_of_block QX)).trans QX, (Below.heap_alloc _ _ _ (lt_of_block QY)).trans QY⟩ (fun hHeld => ?_)
                clear hK K
                refine wpAnyH_ready (rs := [6]) (by kernel_rfl) (by simp) ?_
                refine AllReadyH.cons (o := _) rfl (fun K hK => ?_) AllReadyH.nil
                go_simp
                refine (HP.out (w2.alloc (.cells #[.int .i64 10, .int .i64 0, .string t2.h.nm, .int .i64 0, .slice p20 t2.ag.length q20, .slice y2 (pad t2.ag.length t2.ns).length k2, .slice p22 t2.os.length q22, .slice p23 t2.on.length q23, .slice none 0 0, .slice none 0 0, .slice none 0 0, .int .u8 0, .int .i64 0, .int .i64 0] 38)) w1.heap.size w2.heap.size y1 k1 y2 k2 (QB.alloc QB.size _) ((Below.heap_alloc _ _ _ (lt_of_block HA2)).trans HA2) (heap_alloc_last w2 _) (PF.on (QD.alloc QD.size _)) (QF.on ((Below.refl _ _).alloc (Nat.le_refl _) _))).mono ?_
                rintro e w3 ⟨rfl, hb3⟩
                have B3 : Below w2.heap.size w2 w3 := ((Below.refl _ _).alloc (Nat.le_refl _) _).trans (hb3.mono (by simp))
                obtain ⟨RX, RY, RB⟩ := stay QX QY QB B3
                refine hK.out _ _ ⟨RX, RY⟩ (fun hHeld => ?_)
                clear hK K hb3
                refine wpAnyH_ready (rs := [7]) (by kernel_rfl) (by simp) ?_
                refine AllReadyH.cons (o := _) rfl (fun K hK => ?_) AllReadyH.nil
                go_simp
                refine hK.out _ _ ⟨RX, RY⟩ (fun hHeld => ?_)
                clear hK K
                refine wpAnyH_done (by kernel_rfl) ?_ _
                refine Met.intro ?_
                go_step
                go_meet
                case rel => exact ⟨rfl, RB⟩
              · go_simp
                refine (S2.out w1 PB).mono ?_
                rintro e w2 ⟨⟨y2, k2, rfl, hf2⟩, hb2⟩
                obtain ⟨QX, QY, QB⟩ := stay PX PY PB hb2
                have QD : Below w1.heap.size w1 w2 := hb2
                skip
                have QF : NmF (fun b => b < w2.heap.size) w2 y2 (pad t2.ag.length t2.ns) := hf2.sub fun b q => q.2
                refine hK.out _ _ ⟨QX, QY⟩ (fun hHeld => ?_)
                clear hK K hf2 hb2
                refine wpAnyH_ready (rs := [2, 5]) (by kernel_rfl) (by simp) ?_
                refine AllReadyH.cons (o := _) rfl (fun K hK => ?_) (AllReadyH.cons (o := _) rfl (fun K hK => ?_) AllReadyH.nil)
                · go_simp
                  refine hK.out _ _ ⟨(Below.heap_alloc _ _ _ (lt_of_block QX)).trans QX, (Below.heap_alloc _ _ _ (lt_of_block QY)).trans QY⟩ (fun hHeld => ?_)
                  clear hK K
                  refine wpAnyH_ready (rs := [5]) (by kernel_rfl) (by simp) ?_
                  refine AllReadyH.cons (o := _) rfl (fun K hK => ?_) AllReadyH.nil
                  go_simp
                  refine hK.out _ _ ⟨(Below.heap_alloc _ _ _ (lt_of_block hHeld.1)).trans hHeld.1, (Below.heap_alloc _ _ _ (lt_of_block hHeld.2)).trans hHeld.2⟩ (fun hHeld => ?_)
                  clear hK K
                  refine wpAnyH_ready (rs := [6]) (by kernel_rfl) (by simp) ?_
                  refine AllReadyH.cons (o := _) rfl (fun K hK => ?_) AllReadyH.nil
                  go_simp
                  refine (HP.out ((w2.alloc (.cells #[.int .i64 10, .int .i64 0, .string t1.h.nm, .int .i64 0, .slice p10 t1.ag.length q10, .slice y1 (pad t1.ag.length t1.ns).length k1, .slice p12 t1.os.length q12, .slice p13 t1.on.length q13, .slice none 0 0, .slice none 0 0, .slice none 0 0, .int .u8 0, .int .i64 0, .int .i64 0] 38)).alloc (.cells #[.int .i64 10, .int .i64 0, .string t2.h.nm, .int .i64 0, .slice p20 t2.ag.length q20, .slice y2 (pad t2.ag.length t2.ns).length k2, .slice p22 t2.os.length q22, .slice p23 t2.on.length q23, .slice none 0 0, .slice none 0 0, .slice none 0 0, .int .u8 0, .int .i64 0, .int .i64 0] 38)) w2.heap.size (w2.heap.size + 1) y1 k1 y2 k2 (two_up QB QB.size _ _) (rowsB w2 _ _).1 (rowsB w2 _ _).2 (PF.on (two_up QD QD.size _ _)) (QF.on (two_up (Below.refl _ _) (Nat.le_refl _) _ _))).mono ?_
                  rintro e w3 ⟨rfl, hb3⟩
                  have B3 : Below w2.heap.size w2 w3 := (two_up (Below.refl _ _) (Nat.le_refl _) _ _).trans (hb3.mono (by simp; omega))
                  obtain ⟨RX, RY, RB⟩ := stay QX QY QB B3
                  refine hK.out _ _ ⟨RX, RY⟩ (fun hHeld => ?_)
                  clear hK K hb3
                  refine wpAnyH_ready (rs := [7]) (by kernel_rfl) (by simp) ?_
                  refine AllReadyH.cons (o := _) rfl (fun K hK => ?_) AllReadyH.nil
                  go_simp
                  refine hK.out _ _ ⟨RX, RY⟩ (fun hHeld => ?_)
                  clear hK K
                  refine wpAnyH_done (by kernel_rfl) ?_ _
                  refine Met.intro ?_
                  go_step
                  go_meet
                  case rel => exact ⟨rfl, RB⟩
                · go_simp
                  refine hK.out _ _ ⟨(Below.heap_alloc _ _ _ (lt_of_block QX)).trans QX, (Below.heap_alloc _ _ _ (lt_of_block QY)).trans QY⟩ (fun hHeld => ?_)
                  clear hK K
                  refine wpAnyH_ready (rs := [2]) (by kernel_rfl) (by simp) ?_
                  refine AllReadyH.cons (o := _) rfl (fun K hK => ?_) AllReadyH.nil
                  go_simp
                  refine hK.out _ _ ⟨(Below.heap_alloc _ _ _ (lt_of_block hHeld.1)).trans hHeld.1, (Below.heap_alloc _ _ _ (lt_of_block hHeld.2)).trans hHeld.2⟩ (fun hHeld => ?_)
                  clear hK K
                  refine wpAnyH_ready (rs := [6]) (by kernel_rfl) (by simp) ?_
                  refine AllReadyH.cons (o := _) rfl (fun K hK => ?_) AllReadyH.nil
                  go_simp
                  refine (HP.out ((w2.alloc (.cells #[.int .i64 10, .int .i64 0, .string t2.h.nm, .int .i64 0, .slice p20 t2.ag.length q20, .slice y2 (pad t2.ag.length t2.ns).length k2, .slice p22 t2.os.length q22, .slice p23 t2.on.length q23, .slice none 0 0, .slice none 0 0, .slice none 0 0, .int .u8 0, .int .i64 0, .int .i64 0] 38)).alloc (.cells #[.int .i64 10, .int .i64 0, .string t1.h.nm, .int .i64 0, .slice p10 t1.ag.length q10, .slice y1 (pad t1.ag.length t1.ns).length k1, .slice p12 t1.os.length q12, .slice p13 t1.on.length q13, .slice none 0 0, .slice none 0 0, .slice none 0 0, .int .u8 0, .int .i64 0, .int .i64 0] 38)) (w2.heap.size + 1) w2.heap.size y1 k1 y2 k2 (two_up QB QB.size _ _) (rowsB w2 _ _).2 (rowsB w2 _ _).1 (PF.on (two_up QD QD.size _ _)) (QF.on (two_up (Below.refl _ _) (Nat.le_refl _) _ _))).mono ?_
                  rintro e w3 ⟨rfl, hb3⟩
                  have B3 : Below w2.heap.size w2 w3 := (two_up (Below.refl _ _) (Nat.le_refl _) _ _).trans (hb3.mono (by simp; omega))
                  obtain ⟨RX, RY, RB⟩ := stay QX QY QB B3
                  refine hK.out _ _ ⟨RX, RY⟩ (fun hHeld => ?_)
                  clear hK K hb3
                  refine wpAnyH_ready (rs := [7]) (by kernel_rfl) (by simp) ?_
                  refine AllReadyH.cons (o := _) rfl (fun K hK => ?_) AllReadyH.nil
                  go_simp
                  refine hK.out _ _ ⟨RX, RY⟩ (fun hHeld => ?_)
                  clear hK K
                  refine wpAnyH_done (by kernel_rfl) ?_ _
                  refine Met.intro ?_
                  go_step
                  go_meet
                  case rel => exact ⟨rfl, RB⟩
            case rest =>
              obtain ⟨rfl, hb⟩ := hcut
              clear BC S1 S2 HP OX OY OB Oa0 Ob0 Oa1 Ob1 Oa2 Ob2 Oa3 Ob3 Oa4 Ob4 Oa5 Ob5 Oa6 Ob6 Oa7 Ob7 Oa8 Ob8 Oa9 Ob9 Oa10 Ob10
              have BC : Hid (Below wr.heap.size wr wc) := hb
              clear hb
              cases rr : r
              · skip
                have ed := smL_bad (smI d) l l' k _ _ E1.out E2.out (by rw [FE.out]; exact by rw [rr]; simp)
                clear FE pass rr
                go_wp2
                go_ret
                exact ⟨by first | rfl | (rw [ed]; rfl), HW.out.trans (BC.out.mono HW.out.size)⟩
              · skip
                have Q : Hid (smI d t1 t2 = true) := by show _ = _; rw [FE.out, pass, rr]; rfl
                clear FE pass rr
                have ew : wrap64 ((k : Int) + 1) = (k : Int) + 1 := by have := HA.out.1; have := LT.out; unfold wrap64; omega
                go_wp2
                rw [ew]
                exact ⟨⟨k + 1, Nat.succ_le_of_lt LT.out, rfl, HW.out.trans (BC.out.mono HW.out.size), fun j e e' hj a b => by
                  rcases Nat.lt_succ_iff_lt_or_eq.1 hj with h | rfl
                  · exact AL.out j e e' h a b
                  · rw [E1.out] at a; rw [E2.out] at b; cases a; cases b; exact Q.out⟩, msr LT.out⟩
      · have kl : ¬ (k : Int) < l.length := by omega
        have ed := smL_all (smI d) l l' HN.out.symm fun i e e' a b => AL.out i e e' (by
          apply Classical.byContradiction
          intro q
          rw [List.getElem?_eq_none (by omega)] at a
          cases a) a b
        clear hbw hlt
        go_wp2
        go_ret
        exact ⟨by first | rfl | (rw [ed]; rfl), HW.out⟩
  · have el' : ((l.length : Int) == (l'.length : Int)) = false := by rw [beq_eq_false_iff_ne]; omega
    have el2 : ((l.length : Int) != (l'.length : Int)) = true := by simp [bne, el']
    have ed := smL_len (smI d) l l' el
    clear el
    go_enter Try.func6, Try.ntmps6
    go_wp2
    go_ret
    exact ⟨by first | rfl | (rw [ed]; rfl), Below.refl _ _⟩
end Go.Proofs.Yteffdmjleihhdaa
