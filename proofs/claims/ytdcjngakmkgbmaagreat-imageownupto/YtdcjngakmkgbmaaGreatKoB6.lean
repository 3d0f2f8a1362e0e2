/- image: what Encode answers, in three ways; a row of bytes copied into one's own; no statement of the seat is proved here. -/
import Derived.Test.YtdcjngakmkgbmaaGreatKoB1
import Derived.Test.YtdcjngakmkgbmaaGreatKoB2
import Derived.Test.YtdcjngakmkgbmaaGreatKoB3
import Derived.Test.YtdcjngakmkgbmaaGreatCkQK
import Derived.Deep.RegionLaw
import Derived.Test.YtdcjngakmkgbmaaGreatKoB4
import Derived.Test.YtdcjngakmkgbmaaGreatKoA8
import Derived.ScopeJumps
import Derived.WalkMore
import Derived.Test.YtdcjngakmkgbmaaGreatKoA3
namespace Go.Proofs.YtdcjngakmkgbmaaGreat
set_option linter.unusedVariables false
open Go.RowKit
theorem nbN_lt (n : Int) : ∀ b ∈ nbN n, b < 256 := fun b hb => by
  unfold nbN nbK at hb
  obtain ⟨i, _, rfl⟩ := List.mem_map.1 hb
  have h1 := Int.emod_nonneg (n / 2 ^ (8 * i)) (show (256 : Int) ≠ 0 by decide)
  have h2 := Int.emod_lt_of_pos (n / 2 ^ (8 * i)) (show (0 : Int) < 256 by decide)
  omega
def Lt (l : List Nat) : Prop := ∀ b ∈ l, b < 256
theorem Lt.app {a b : List Nat} (h : Lt a) (k : Lt b) : Lt (a ++ b) := fun x hx => (List.mem_append.1 hx).elim (h x) (k x)
theorem Lt.sb (s : ByteArray) : Lt (sbN s) := fun b hb => by
  unfold sbN at hb
  obtain ⟨i, _, rfl⟩ := List.mem_map.1 hb
  exact i.toNat_lt
theorem Lt.tb (s : ByteArray) : Lt (tbN s) := (show Lt (nbN s.size) from nbN_lt _).app (Lt.sb s)
theorem Lt.one {x : Nat} (h : x < 256) : Lt [x] := fun b hb => by rw [List.mem_singleton.1 hb]; exact h
theorem Lt.md (x : Int) : Lt [(x % (256 : Int)).toNat] := Lt.one (by have := Int.emod_nonneg x (show (256 : Int) ≠ 0 by decide); have := Int.emod_lt_of_pos x (show (0 : Int) < 256 by decide); omega)
theorem Lt.bb (b : Bool) : Lt [bbN b] := Lt.one (by cases b <;> decide)
theorem Lt.fm {α : Type} {f : α → List Nat} {l : List α} (h : ∀ e ∈ l, Lt (f e)) : Lt (l.flatMap f) := fun b hb => by
  obtain ⟨e, he, hb⟩ := List.mem_flatMap.1 hb
  exact h e he b hb
theorem Lt.ns (l : List Int) : Lt (nsN l) := Lt.fm (fun e _ => nbN_lt e)
theorem Lt.ls {α : Type} {f : α → List Nat} {l : List α} (h : ∀ e, Lt (f e)) : Lt (lsN f l) := (show Lt (nbN l.length) from nbN_lt _).app (Lt.fm (fun e _ => h e))
theorem Lt.vb (k b : Int) (s : ByteArray) : Lt (vbN k b s) := ((Lt.md k).app (nbN_lt _)).app (Lt.tb s)
theorem Lt.cb (c : CeR) : Lt (cbN c) := ((((((Lt.md _).app (Lt.bb _)).app (Lt.ns _)).app (Lt.vb _ _ _)).app (Lt.bb _)).app (Lt.md _)).app (Lt.tb _)
theorem Lt.ob (o : OpR) : Lt (obN o) := (Lt.ns _).app (Lt.vb _ _ _)
theorem Lt.lb (l : LpR) : Lt (lbN l) := Lt.ns _
theorem Lt.flb (f : FlR) : Lt (flbN f) := (((Lt.tb _).app (Lt.ns _)).app (Lt.ls Lt.ob)).app (Lt.ls Lt.lb)
theorem Lt.jb (j : JbR) : Lt (jbN j) := ((((Lt.tb _).app (Lt.ns _)).app (Lt.ls (fun e => nbN_lt e))).app (Lt.ls (fun e => nbN_lt e))).app (nbN_lt _)
theorem Lt.imb (m : ImR) : Lt (imbN m) := ((((Lt.sb _).app (Lt.tb _)).app (Lt.ls Lt.cb)).app (Lt.ls Lt.flb)).app (Lt.ls Lt.jb)
/-- An image that may be is small enough. -/
theorem chk_small {m : ImR} (h : (chk m).2.2 = 0) (ho : ImOk m) : ImS m := by
  obtain ⟨o1, o2, o3, o4, o5, o6, o7⟩ := ho
  have z0 : (lk3 m 0).2.2 = 0 := Decidable.byContradiction fun q => q (by rw [chk_0 q] at h; exact h)
  obtain ⟨_, a1, a2, a3⟩ := hd_0 z0
  have z1 : (lk3 m 1).2.2 = 0 := Decidable.byContradiction fun q => by rw [chk_1 z0, if_pos q] at h; exact q h
  have z2 : (lk3 m 2).2.2 = 0 := Decidable.byContradiction fun q => by rw [chk_1 z0, if_neg (by simp [z1]), if_pos q] at h; exact q h
  have zf := lk_none2 z2
  refine ⟨o1, o2, fun f hf => ⟨o3 f hf, ?_⟩, o4, by omega, by omega, by omega⟩
  obtain ⟨i, hi⟩ := List.mem_iff_getElem?.1 hf
  have hl := (List.getElem?_eq_some_iff.1 hi).1
  unfold fstN at zf
  rw [List.find?_range_eq_none] at zf
  have z := zf i hl
  simp only [Bool.not_eq_true'] at z
  have tk := (totK_succ hi).1
  unfold flAt at z
  rw [hi] at z
  by_cases b1 : nameB f.nm = false
  · simp [b1] at z
  by_cases b2 : coB f m.cs.length = false
  · simp [b1, b2] at z
  by_cases b3 : 16384 < totN m.fs i ∨ 16384 < f.ls.length
  · simp [b1, b2, b3] at z
  omega
theorem ownsRow_mono {V : World} {B C : Nat} {e : TypeId} {v : Value} {n : Nat} {xs : List Value} (h : V.ownsRow B e 1 v n xs) (hB : C ≤ B) : V.ownsRow C e 1 v n xs := by
  refine ⟨h.1, ?_⟩
  rcases h.2 with q | ⟨g, cap, cur, q1, q2, q3⟩
  · exact Or.inl q
  · exact Or.inr ⟨g, cap, cur, q1, Nat.le_trans hB q2, q3⟩
end Go.Proofs.YtdcjngakmkgbmaaGreat
namespace Go.Proofs.YtdcjngakmkgbmaaGreat
set_option linter.unusedVariables false
open Go.RowKit
set_option maxRecDepth 20000 in
set_option maxHeartbeats 4000000 in
theorem writeListCell_nil (B g : Nat) (bs : List Value) (fv : Value) (w : World) (h : Wq B g bs w) (hl : bs.length ≤ 900) :
    Calls Tryz.prog 26 #[.pointer (some ⟨g, 0, none⟩), .slice none 0 0, fv] w fun e w' => e = .returned (.tuple #[]) ∧ (∃ l : List Value, l.length = 8 ∧ Wq B g (bs ++ l) w') ∧ Bq B w w' := by
  have H : Hid (Wq B g bs w) := h
  have HL : Hid (bs.length ≤ 900) := hl
  clear h hl
  go_enter Tryz.func26, Tryz.ntmps26
  go_wp2_with (go_at_call 57; refine (number_of B g bs _ _ H.out (by have := HL.out; omega)).mono ?_)
  first | (rintro e w1 ⟨he, ⟨l, hll, h1⟩, hb1⟩) | (rintro e w1 he ⟨⟨l, hll, h1⟩, hb1⟩) | (rintro e w1 he ⟨l, hll, h1⟩ hb1) | (rintro e w1 he l hll h1 hb1)
  subst he
  have L1 : Hid (l.length = 8) := hll
  have W1 : Hid (Wq B g (bs ++ l) w1) := h1
  have B1 : Hid (Bq B w w1) := hb1
  clear hll h1 hb1
  go_upto_region 2 with fail
  go_loopw [14] (fun i wr => i = .int .i64 0 ∧ wr = w1) (fun _ _ => 0)
  case atStart => exact ⟨rfl, rfl⟩
  case round =>
    obtain ⟨rfl, hw⟩ := hrel
    rw [hw]
    clear hw wr
    go_wp2
    go_end0
    exact ⟨rfl, ⟨l, L1.out, W1.out⟩, B1.out⟩
set_option maxRecDepth 20000 in
set_option maxHeartbeats 4000000 in
theorem writeListFlat_nil (B g : Nat) (bs : List Value) (fv : Value) (w : World) (h : Wq B g bs w) (hl : bs.length ≤ 900) :
    Calls Tryz.prog 28 #[.pointer (some ⟨g, 0, none⟩), .slice none 0 0, fv] w fun e w' => e = .returned (.tuple #[]) ∧ (∃ l : List Value, l.length = 8 ∧ Wq B g (bs ++ l) w') ∧ Bq B w w' := by
  have H : Hid (Wq B g bs w) := h
  have HL : Hid (bs.length ≤ 900) := hl
  clear h hl
  go_enter Tryz.func28, Tryz.ntmps28
  go_wp2_with (go_at_call 57; refine (number_of B g bs _ _ H.out (by have := HL.out; omega)).mono ?_)
  first | (rintro e w1 ⟨he, ⟨l, hll, h1⟩, hb1⟩) | (rintro e w1 he ⟨⟨l, hll, h1⟩, hb1⟩) | (rintro e w1 he ⟨l, hll, h1⟩ hb1) | (rintro e w1 he l hll h1 hb1)
  subst he
  have L1 : Hid (l.length = 8) := hll
  have W1 : Hid (Wq B g (bs ++ l) w1) := h1
  have B1 : Hid (Bq B w w1) := hb1
  clear hll h1 hb1
  go_upto_region 2 with fail
  go_loopw [14] (fun i wr => i = .int .i64 0 ∧ wr = w1) (fun _ _ => 0)
  case atStart => exact ⟨rfl, rfl⟩
  case round =>
    obtain ⟨rfl, hw⟩ := hrel
    rw [hw]
    clear hw wr
    go_wp2
    go_end0
    exact ⟨rfl, ⟨l, L1.out, W1.out⟩, B1.out⟩
set_option maxRecDepth 20000 in
set_option maxHeartbeats 4000000 in
theorem writeListJob_nil (B g : Nat) (bs : List Value) (fv : Value) (w : World) (h : Wq B g bs w) (hl : bs.length ≤ 900) :
    Calls Tryz.prog 30 #[.pointer (some ⟨g, 0, none⟩), .slice none 0 0, fv] w fun e w' => e = .returned (.tuple #[]) ∧ (∃ l : List Value, l.length = 8 ∧ Wq B g (bs ++ l) w') ∧ Bq B w w' := by
  have H : Hid (Wq B g bs w) := h
  have HL : Hid (bs.length ≤ 900) := hl
  clear h hl
  go_enter Tryz.func30, Tryz.ntmps30
  go_wp2_with (go_at_call 57; refine (number_of B g bs _ _ H.out (by have := HL.out; omega)).mono ?_)
  first | (rintro e w1 ⟨he, ⟨l, hll, h1⟩, hb1⟩) | (rintro e w1 he ⟨⟨l, hll, h1⟩, hb1⟩) | (rintro e w1 he ⟨l, hll, h1⟩ hb1) | (rintro e w1 he l hll h1 hb1)
  subst he
  have L1 : Hid (l.length = 8) := hll
  have W1 : Hid (Wq B g (bs ++ l) w1) := h1
  have B1 : Hid (Bq B w w1) := hb1
  clear hll h1 hb1
  go_upto_region 2 with fail
  go_loopw [14] (fun i wr => i = .int .i64 0 ∧ wr = w1) (fun _ _ => 0)
  case atStart => exact ⟨rfl, rfl⟩
  case round =>
    obtain ⟨rfl, hw⟩ := hrel
    rw [hw]
    clear hw wr
    go_wp2
    go_end0
    exact ⟨rfl, ⟨l, L1.out, W1.out⟩, B1.out⟩
set_option maxRecDepth 20000 in
set_option maxHeartbeats 4000000 in
theorem imageM_of (B g : Nat) (w : World) (h : Wq B g [] w) :
    Calls Tryz.prog 11 #[.pointer (some ⟨g, 0, none⟩), .agg #[.string ⟨#[77]⟩, .slice none 0 0, .slice none 0 0, .slice none 0 0]] w fun e w' => e = .returned (.tuple #[]) ∧ (∃ l : List Value, l.length = 37 ∧ l[0]? = some (.int .u8 114) ∧ l[12]? = some (.int .u8 77) ∧ Wq B g l w') ∧ Bq B w w' := by
  obtain ⟨i0, hi, hz0, hz1, hz2⟩ := u8_info
  have HB := h.lt
  obtain ⟨AW, eW⟩ : ∃ AW, AW = w.alloc (.cells #[.string ⟨#[77]⟩, .slice none 0 0, .slice none 0 0, .slice none 0 0] 26 (0, 0)) := ⟨_, rfl⟩
  have AB : Hid (Below w.heap.size w AW) := by rw [eW]; exact (Below.refl _ _).alloc (Nat.le_refl _) _
  have AX : Hid (AW.heap[w.heap.size]? = some (.cells #[.string ⟨#[77]⟩, .slice none 0 0, .slice none 0 0, .slice none 0 0] 26 (0, 0))) := by rw [eW]; exact heap_alloc_last _ _
  have h' := h.below AB.out
  clear h
  obtain ⟨x, n, c, hg, hown⟩ := h'.shape
  have c0 : AW.cell? ⟨g, 0, none⟩ = some (.slice x n c) := by simp [World.cell?, hg]
  have HG : Hid (AW.heap[g]? = some (.cells #[.slice x n c] 58 (0, 0))) := hg
  have HO : Hid (AW.ownsRow B 5 1 (.slice x n c) ([] : List Value).length []) := hown
  have NE : Hid ((Value.slice x n c).ownBlock ≠ some g) := Lib.ownBlock_ne hown hg (by decide)
  have NI : Hid ((Value.slice x n c).ownBlock ≠ some w.heap.size) := Lib.ownBlock_ne hown AX.out (by decide)
  have AS : AW.heap.size = w.heap.size + 1 := by rw [eW]; simp
  clear h' hg hown
  go_enter Tryz.func11, Tryz.ntmps11
  go_upto_region 1 with fail
  rw [← eW]
  clear eW
  go_wp2_with (at_builtin; refine Lib.wpList_append_own_string _ rfl _ _ 27 9 rfl B 5 i0 Tryz.underlying27 Tryz.underlying9 hi hz0 hz1 hz2 _ _ _ rfl HO.out ⟨#[114, 108, 121, 1]⟩ rfl ?c3 ?c4 ?c5 ?_)
  case c3 => decide
  case c4 => decide
  case c5 => omega
  intro v' w2 hown' hgrow hnil
  have O2 : Hid (w2.ownsRow B 5 1 v' (Lib.strCells ⟨#[114, 108, 121, 1]⟩).length (Lib.strCells ⟨#[114, 108, 121, 1]⟩)) := hown'
  have HB2 : g < AW.heap.size := blk_in HG.out
  have G2 : Hid (w2.heap[g]? = some (.cells #[.slice x n c] 58 (0, 0))) := by
    rw [hgrow.block g HB2 (fun e => NE.out e.symm)]
    exact HG.out
  have Q2 : Hid (Bq B AW w2) := (Bq.refl B AW).grown HO.out hgrow (by omega)
  have d0 : w2.cell? ⟨g, 0, none⟩ = some (.slice x n c) := by simp [World.cell?, G2.out]
  have d1 : w2.frozen? ⟨g, 0, none⟩ = false := by simp [World.frozen?, G2.out]
  obtain ⟨y, k, q, rfl⟩ : ∃ y k q, v' = .slice y k q := by
    rcases hown'.2 with ⟨hv, _⟩ | ⟨_, cap, cur, hv, _⟩
    · exact ⟨_, _, _, hv⟩
    · exact ⟨_, _, _, hv⟩
  clear hown' hgrow hnil c0
  obtain ⟨w3, e3⟩ : ∃ V, V = w2.setCell ⟨g, 0, none⟩ (.slice y k q) := ⟨_, rfl⟩
  have H3 : Hid (Wq B g (Lib.strCells ⟨#[114, 108, 121, 1]⟩) w3) := by rw [e3]; exact Wq.put HB.1 G2.out O2.out (U8s.str _)
  have Q3 : Hid (Bq B AW w3) := by rw [e3]; exact Q2.out.set G2.out HB.1 _ _
  have I3 : Hid (w3.heap[w.heap.size]? = some (.cells #[.string ⟨#[77]⟩, .slice none 0 0, .slice none 0 0, .slice none 0 0] 26 (0, 0))) := Q3.out.k _ _ _ _ AX.out (by decide) (by decide)
  go_upto_region 2 with fail
  rw [← e3]
  clear e3 d0 d1 G2 O2 Q2
  have i0 : w3.cell? ⟨w.heap.size, 0, none⟩ = some (.string ⟨#[77]⟩) := by simp [World.cell?, I3.out]
  have i1 : w3.cell? ⟨w.heap.size, 1, none⟩ = some (.slice none 0 0) := by simp [World.cell?, I3.out]
  have i2 : w3.cell? ⟨w.heap.size, 2, none⟩ = some (.slice none 0 0) := by simp [World.cell?, I3.out]
  have i3 : w3.cell? ⟨w.heap.size, 3, none⟩ = some (.slice none 0 0) := by simp [World.cell?, I3.out]
  go_wp2_with (go_at_call 25; refine (text_of B g _ _ _ H3.out (by decide) (by decide)).mono ?_)
  first | (rintro e w4 ⟨he, ⟨l4, hll, h1⟩, hb1⟩) | (rintro e w4 he ⟨⟨l4, hll, h1⟩, hb1⟩) | (rintro e w4 he ⟨l4, hll, h1⟩ hb1) | (rintro e w4 he l4 hll h1 hb1)
  subst he
  have L4 : Hid (l4.length = 8) := hll
  have H4 : Hid (Wq B g (Lib.strCells ⟨#[114, 108, 121, 1]⟩ ++ l4 ++ Lib.strCells ⟨#[77]⟩) w4) := by first | exact h1 | simpa [List.append_assoc] using h1
  have Q4 : Hid (Bq B AW w4) := Q3.out.trans hb1
  have I4 : Hid (w4.heap[w.heap.size]? = some (.cells #[.string ⟨#[77]⟩, .slice none 0 0, .slice none 0 0, .slice none 0 0] 26 (0, 0))) := Q4.out.k _ _ _ _ AX.out (by decide) (by decide)
  clear i0 i1 i2 i3 hll h1 hb1
  have i0 : w4.cell? ⟨w.heap.size, 0, none⟩ = some (.string ⟨#[77]⟩) := by simp [World.cell?, I4.out]
  have i1 : w4.cell? ⟨w.heap.size, 1, none⟩ = some (.slice none 0 0) := by simp [World.cell?, I4.out]
  have i2 : w4.cell? ⟨w.heap.size, 2, none⟩ = some (.slice none 0 0) := by simp [World.cell?, I4.out]
  have i3 : w4.cell? ⟨w.heap.size, 3, none⟩ = some (.slice none 0 0) := by simp [World.cell?, I4.out]
  go_wp2_with (go_at_call 26; refine (writeListCell_nil B g _ _ _ H4.out (by simp [Lib.strCells_length, L4.out]; decide)).mono ?_)
  first | (rintro e w5 ⟨he, ⟨l5, hll, h1⟩, hb1⟩) | (rintro e w5 he ⟨⟨l5, hll, h1⟩, hb1⟩) | (rintro e w5 he ⟨l5, hll, h1⟩ hb1) | (rintro e w5 he l5 hll h1 hb1)
  subst he
  have L5 : Hid (l5.length = 8) := hll
  have H5 : Hid (Wq B g (Lib.strCells ⟨#[114, 108, 121, 1]⟩ ++ l4 ++ Lib.strCells ⟨#[77]⟩ ++ l5) w5) := by first | exact h1 | simpa [List.append_assoc] using h1
  have Q5 : Hid (Bq B AW w5) := Q4.out.trans hb1
  have I5 : Hid (w5.heap[w.heap.size]? = some (.cells #[.string ⟨#[77]⟩, .slice none 0 0, .slice none 0 0, .slice none 0 0] 26 (0, 0))) := Q5.out.k _ _ _ _ AX.out (by decide) (by decide)
  clear i0 i1 i2 i3 hll h1 hb1
  have i0 : w5.cell? ⟨w.heap.size, 0, none⟩ = some (.string ⟨#[77]⟩) := by simp [World.cell?, I5.out]
  have i1 : w5.cell? ⟨w.heap.size, 1, none⟩ = some (.slice none 0 0) := by simp [World.cell?, I5.out]
  have i2 : w5.cell? ⟨w.heap.size, 2, none⟩ = some (.slice none 0 0) := by simp [World.cell?, I5.out]
  have i3 : w5.cell? ⟨w.heap.size, 3, none⟩ = some (.slice none 0 0) := by simp [World.cell?, I5.out]
  go_wp2_with (go_at_call 28; refine (writeListFlat_nil B g _ _ _ H5.out (by simp [Lib.strCells_length, L4.out, L5.out]; decide)).mono ?_)
  first | (rintro e w6 ⟨he, ⟨l6, hll, h1⟩, hb1⟩) | (rintro e w6 he ⟨⟨l6, hll, h1⟩, hb1⟩) | (rintro e w6 he ⟨l6, hll, h1⟩ hb1) | (rintro e w6 he l6 hll h1 hb1)
  subst he
  have L6 : Hid (l6.length = 8) := hll
  have H6 : Hid (Wq B g (Lib.strCells ⟨#[114, 108, 121, 1]⟩ ++ l4 ++ Lib.strCells ⟨#[77]⟩ ++ l5 ++ l6) w6) := by first | exact h1 | simpa [List.append_assoc] using h1
  have Q6 : Hid (Bq B AW w6) := Q5.out.trans hb1
  have I6 : Hid (w6.heap[w.heap.size]? = some (.cells #[.string ⟨#[77]⟩, .slice none 0 0, .slice none 0 0, .slice none 0 0] 26 (0, 0))) := Q6.out.k _ _ _ _ AX.out (by decide) (by decide)
  clear i0 i1 i2 i3 hll h1 hb1
  have i0 : w6.cell? ⟨w.heap.size, 0, none⟩ = some (.string ⟨#[77]⟩) := by simp [World.cell?, I6.out]
  have i1 : w6.cell? ⟨w.heap.size, 1, none⟩ = some (.slice none 0 0) := by simp [World.cell?, I6.out]
  have i2 : w6.cell? ⟨w.heap.size, 2, none⟩ = some (.slice none 0 0) := by simp [World.cell?, I6.out]
  have i3 : w6.cell? ⟨w.heap.size, 3, none⟩ = some (.slice none 0 0) := by simp [World.cell?, I6.out]
  go_wp2_with (go_at_call 30; refine (writeListJob_nil B g _ _ _ H6.out (by simp [Lib.strCells_length, L4.out, L5.out, L6.out]; decide)).mono ?_)
  first | (rintro e w7 ⟨he, ⟨l7, hll, h1⟩, hb1⟩) | (rintro e w7 he ⟨⟨l7, hll, h1⟩, hb1⟩) | (rintro e w7 he ⟨l7, hll, h1⟩ hb1) | (rintro e w7 he l7 hll h1 hb1)
  subst he
  have L7 : Hid (l7.length = 8) := hll
  have H7 : Hid (Wq B g (Lib.strCells ⟨#[114, 108, 121, 1]⟩ ++ l4 ++ Lib.strCells ⟨#[77]⟩ ++ l5 ++ l6 ++ l7) w7) := by first | exact h1 | simpa [List.append_assoc] using h1
  have Q7 : Hid (Bq B AW w7) := Q6.out.trans hb1
  have I7 : Hid (w7.heap[w.heap.size]? = some (.cells #[.string ⟨#[77]⟩, .slice none 0 0, .slice none 0 0, .slice none 0 0] 26 (0, 0))) := Q7.out.k _ _ _ _ AX.out (by decide) (by decide)
  clear i0 i1 i2 i3 hll h1 hb1
  go_wp2
  go_end0
  refine ⟨rfl, ⟨_, ?_, ?_, ?_, H7.out⟩, (Bq.up AB.out (by omega)).trans Q7.out⟩
  · simp [Lib.strCells_length, L4.out, L5.out, L6.out, L7.out]; decide
  · rfl
  · simp only [List.append_assoc]
    rw [List.getElem?_append_right (by decide)]
    show (l4 ++ _)[8]? = _
    rw [List.getElem?_append_right (by rw [L4.out]; decide), L4.out]
    rfl
end Go.Proofs.YtdcjngakmkgbmaaGreat
namespace Go.Proofs.YtdcjngakmkgbmaaGreat
set_option linter.unusedVariables false
open Go.RowKit
def mM : ImR := ⟨⟨#[77]⟩, [], [], []⟩
theorem chk_mM : chk mM = (0, 0, 0) := by
  unfold chk
  rw [if_neg (by decide +kernel), if_neg (by decide), if_neg (by decide), if_neg (by decide)]
  rfl
theorem mM_ok : ImOk mM := by
  unfold ImOk mM shT
  exact ⟨by decide, fun c h => (List.not_mem_nil h).elim, fun c h => (List.not_mem_nil h).elim, fun c h => (List.not_mem_nil h).elim, by decide, by decide, by decide⟩
theorem CheckM_of (w : World) : Calls Tryz.prog 10 #[.agg #[.string ⟨#[77]⟩, .slice none 0 0, .slice none 0 0, .slice none 0 0]] w fun e w' => e = .returned (.tuple #[.int .i64 0, .int .i64 0, .int .i64 0]) ∧ Below w.heap.size w w' := by
  have h := CheckI_of mM none none none 0 0 0 w (S := fun _ => False) (fun b h => h.elim) ⟨RwF.nil _ _ _ _, RwF.nil _ _ _ _, RwF.nil _ _ _ _⟩ mM_ok
  rw [chk_mM] at h
  exact h
theorem Wq.new (V : World) : Wq V.heap.size V.heap.size [] (V.alloc (.cells #[.slice none 0 0] 58 (0, 0))) := by
  unfold Wq U8s
  exact ⟨Nat.le_refl _, fun v h => (List.not_mem_nil h).elim, .slice none 0 0, heap_alloc_last _ _, World.ownsRow_nil _ _ _ _, by simp [Value.ownBlock]⟩
theorem Wq.full {B g : Nat} {bs : List Value} {V : World} (h : Wq B g bs V) (hl : 0 < bs.length) : ∃ k c, V.heap[g]? = some (.cells #[.slice (some ⟨k, 0, none⟩) bs.length c] 58 (0, 0)) ∧ V.ownsRow B 5 1 (.slice (some ⟨k, 0, none⟩) bs.length c) bs.length bs ∧ k < V.heap.size ∧ ∀ (j : Nat) u, bs[j]? = some u → V.cell? ⟨k, j, none⟩ = some u := by
  obtain ⟨_, _, v, h1, h2, _⟩ := h
  rcases h2.2 with ⟨rfl, h0⟩ | ⟨k, cap, cur, rfl, hx⟩
  · omega
  · refine ⟨k, cap, h1, h2, blk_in hx.2.1, fun j u hu => ?_⟩
    have := h2.cells (g := k) rfl j u hu
    rw [Addr.add_mid] at this
    simpa using this
set_option maxRecDepth 20000 in
set_option maxHeartbeats 4000000 in
theorem EncodeM_of (w : World) : Calls Tryz.prog 4 #[.agg #[.string ⟨#[77]⟩, .slice none 0 0, .slice none 0 0, .slice none 0 0]] w fun e w' => (∃ g c, e = .returned (.tuple #[.slice (some ⟨g, 0, none⟩) 41 c, .int .i64 0]) ∧ w'.cell? ⟨g, 0, none⟩ = some (.int .u8 114) ∧ w'.cell? ⟨g, 12, none⟩ = some (.int .u8 77)) ∧ Below w.heap.size w w' := by
  obtain ⟨AW, eW⟩ : ∃ AW, AW = w.alloc (.cells #[.string ⟨#[77]⟩, .slice none 0 0, .slice none 0 0, .slice none 0 0] 26 (0, 0)) := ⟨_, rfl⟩
  have AB : Hid (Below w.heap.size w AW) := by rw [eW]; exact (Below.refl _ _).alloc (Nat.le_refl _) _
  have AX : Hid (AW.heap[w.heap.size]? = some (.cells #[.string ⟨#[77]⟩, .slice none 0 0, .slice none 0 0, .slice none 0 0] 26 (0, 0))) := by rw [eW]; exact heap_alloc_last _ _
  have i0 : AW.cell? ⟨w.heap.size, 0, none⟩ = some (.string ⟨#[77]⟩) := by simp [World.cell?, AX.out]
  have i1 : AW.cell? ⟨w.heap.size, 1, none⟩ = some (.slice none 0 0) := by simp [World.cell?, AX.out]
  have i2 : AW.cell? ⟨w.heap.size, 2, none⟩ = some (.slice none 0 0) := by simp [World.cell?, AX.out]
  have i3 : AW.cell? ⟨w.heap.size, 3, none⟩ = some (.slice none 0 0) := by simp [World.cell?, AX.out]
  go_enter Tryz.func4, Tryz.ntmps4
  go_upto_region 1 with fail
  rw [← eW]
  clear eW
  go_wp2_with (go_at_call 10; refine (CheckM_of _).mono ?_)
  first | (rintro e w1 ⟨he, hb1⟩) | (rintro e w1 he hb1)
  subst he
  have B1 : Hid (Below AW.heap.size AW w1) := hb1
  have X1 : Hid (w1.heap[w.heap.size]? = some (.cells #[.string ⟨#[77]⟩, .slice none 0 0, .slice none 0 0, .slice none 0 0] 26 (0, 0))) := (hb1.block _ (blk_in AX.out)).trans AX.out
  clear hb1 i0 i1 i2 i3
  obtain ⟨g, eg⟩ : ∃ g, g = w1.heap.size := ⟨_, rfl⟩
  obtain ⟨w2, e2⟩ : ∃ w2, w2 = w1.alloc (.cells #[.slice none 0 0] 58 (0, 0)) := ⟨_, rfl⟩
  have H2 : Hid (Wq g g [] w2) := by rw [e2, eg]; exact Wq.new _
  have B2 : Hid (Below g w1 w2) := by rw [e2, eg]; exact (Below.refl _ _).alloc (Nat.le_refl _) _
  have X2 : Hid (w2.heap[w.heap.size]? = some (.cells #[.string ⟨#[77]⟩, .slice none 0 0, .slice none 0 0, .slice none 0 0] 26 (0, 0))) := (B2.out.block _ (by rw [eg]; exact blk_in X1.out)).trans X1.out
  have i0 : w2.cell? ⟨w.heap.size, 0, none⟩ = some (.string ⟨#[77]⟩) := by simp [World.cell?, X2.out]
  have i1 : w2.cell? ⟨w.heap.size, 1, none⟩ = some (.slice none 0 0) := by simp [World.cell?, X2.out]
  have i2 : w2.cell? ⟨w.heap.size, 2, none⟩ = some (.slice none 0 0) := by simp [World.cell?, X2.out]
  have i3 : w2.cell? ⟨w.heap.size, 3, none⟩ = some (.slice none 0 0) := by simp [World.cell?, X2.out]
  go_upto_region 5 with fail
  rw [← e2, ← eg]
  have GB : Hid (Below w.heap.size w w2) := AB.out.trans ((B1.out.trans (B2.out.mono (by rw [eg]; exact B1.out.size))).mono AB.out.size)
  have WG : Hid (w.heap.size ≤ g) := by rw [eg]; exact Nat.le_of_lt (blk_in X1.out)
  clear e2 eg
  go_wp2_with (go_at_call 11; refine (imageM_of g g _ H2.out).mono ?_)
  first | (rintro e w3 ⟨he, ⟨l, l37, l0, l12, h3⟩, q3⟩) | (rintro e w3 he ⟨⟨l, l37, l0, l12, h3⟩, q3⟩) | (rintro e w3 he ⟨l, l37, l0, l12, h3⟩ q3) | (rintro e w3 he l l37 l0 l12 h3 q3)
  subst he
  have GB3 : Hid (Below w.heap.size w w3) := GB.out.trans (q3.b.mono WG.out)
  obtain ⟨k, c, hg, hown, hk, hcells⟩ := h3.full (by omega)
  have hu8 := h3.u8
  rw [l37] at hg hown
  have G3 : Hid (w3.heap[g]? = some (.cells #[.slice (some ⟨k, 0, none⟩) 37 c] 58 (0, 0))) := hg
  have O3 : Hid (w3.ownsRow g 5 1 (.slice (some ⟨k, 0, none⟩) 37 c) 37 l) := hown
  have SC : Hid (∀ j : Nat, j < 37 → ∃ a b, (some ⟨k, 0, none⟩ : Option Addr) = some a ∧ a.block < w3.heap.size ∧ w3.cell? (a.add j) = some (.int .u8 b)) := fun j hj => by
    obtain ⟨b, hb⟩ := hu8 _ (List.getElem_mem (l := l) (n := j) (by omega))
    refine ⟨_, b, rfl, hk, ?_⟩
    rw [Addr.add_mid, ← hb, Nat.zero_add]
    exact hcells j _ (List.getElem?_eq_getElem (by omega))
  have L37 : Hid (l.length = 37) := l37
  have L0 : Hid (l[0]? = some (.int .u8 114)) := l0
  have L12 : Hid (l[12]? = some (.int .u8 77)) := l12
  clear h3 q3 hg hown hu8 hcells l37 l0 l12 i0 i1 i2 i3
  have d0 : w3.cell? ⟨g, 0, none⟩ = some (.slice (some ⟨k, 0, none⟩) 37 c) := by simp [World.cell?, G3.out]
  go_wp2_with (go_at_call 12; refine (sumOf_of _ 37 c _ (by decide) SC.out).mono ?_)
  first | (rintro e w4 ⟨⟨b0, b1, b2, b3, he⟩, hb4⟩) | (rintro e w4 b0 b1 b2 b3 he hb4) | (rintro e w4 ⟨b0, b1, b2, b3, he⟩ hb4)
  subst he
  have B4 : Hid (Below w3.heap.size w3 w4) := hb4
  clear hb4 d0
  obtain ⟨w5, e5⟩ : ∃ w5, w5 = w4.alloc (.cells #[.int .u8 b0, .int .u8 b1, .int .u8 b2, .int .u8 b3] 60 (0, 0)) := ⟨_, rfl⟩
  have X5 : Hid (w5.heap[w4.heap.size]? = some (.cells #[.int .u8 b0, .int .u8 b1, .int .u8 b2, .int .u8 b3] 60 (0, 0))) := by rw [e5]; exact heap_alloc_last _ _
  have B5 : Hid (Below w3.heap.size w3 w5) := by rw [e5]; exact B4.out.trans (((Below.refl _ _).alloc (Nat.le_refl _) _).mono B4.out.size)
  go_upto_region 9 with fail
  rw [← e5]
  clear e5
  have d0 : w5.cell? ⟨g, 0, none⟩ = some (.slice (some ⟨k, 0, none⟩) 37 c) := (B5.out.cell (p := ⟨g, 0, none⟩) (blk_in G3.out)).trans (by simp [World.cell?, G3.out])
  have O5 : Hid (w5.drew.ownsRow g 5 1 (.slice (some ⟨k, 0, none⟩) 37 c) 37 l) := O3.out.kept (row := none) ⟨B5.out.os, B5.out.tape, B5.out.output, B5.out.size, fun j hj _ => B5.out.block j hj⟩ (by simp [Value.ownBlock])
  have S5 : Hid (∀ (j : Nat) u, ([.int .u8 b0, .int .u8 b1, .int .u8 b2, .int .u8 b3] : List Value)[j]? = some u → w5.drew.cell? ((⟨w4.heap.size, 0, none⟩ : Addr).add j) = some u) := fun j u hu => by
    rw [Addr.add_mid, Nat.zero_add]
    show w5.cell? _ = _
    rw [World.cell?, X5.out]
    simpa using hu
  have GK : Hid (w.heap.size ≤ g ∧ g ≤ w5.heap.size) := ⟨WG.out, by have := blk_in G3.out; have := B5.out.size; omega⟩
  have GB5 : Hid (Below w.heap.size w w5.drew) := (GB3.out.trans (B5.out.mono GB3.out.size)).drew
  obtain ⟨i, hi, hz, hs, hy⟩ := u8_info
  go_region_law ((rw [if_pos (by rfl)]; refine wp_append_own _ _ _ 27 rfl g 5 i _ 1 1 Tryz.underlying27 hi hz hs hy rfl (by decide) _ 37 l rfl O5.out ⟨w4.heap.size, 0, none⟩ 4 4 [.int .u8 b0, .int .u8 b1, .int .u8 b2, .int .u8 b3] rfl rfl S5.out (by intro u hu; simp at hu; rcases hu with rfl | rfl | rfl | rfl <;> rfl) (by decide) (by decide) GK.out.2 ?_; intro v' w' k1 k2 k3))
  have k2' : w5.drew.grownBy w' (Value.slice (some ⟨k, 0, none⟩) 37 c).ownBlock := k2
  have B6 : Hid (Below w.heap.size w w') := GB5.out.grown k2' (by have := GK.out; show _ ≤ w5.heap.size; omega) (fun j hj => by have := (O5.out.lt j hj).1; have := GK.out.1; omega)
  obtain ⟨r, cap, hv, hr⟩ : ∃ r cap, v' = .slice (some ⟨r, 0, none⟩) 41 cap ∧ ∀ (j : Nat) u, (l ++ [.int .u8 b0, .int .u8 b1, .int .u8 b2, .int .u8 b3])[j]? = some u → w'.cell? ⟨r, j, none⟩ = some u := by
    rcases k1.2 with ⟨_, h0⟩ | ⟨r, cap, cur, hv, _⟩
    · omega
    · refine ⟨r, cap, hv, fun j u hu => ?_⟩
      have := k1.cells (g := r) (by rw [hv]; rfl) j u hu
      rw [Addr.add_mid] at this
      simpa using this
  subst hv
  have C0 : Hid (w'.cell? ⟨r, 0, none⟩ = some (.int .u8 114)) := hr 0 _ (by rw [List.getElem?_append_left (by rw [L37.out]; decide)]; exact L0.out)
  have C12 : Hid (w'.cell? ⟨r, 12, none⟩ = some (.int .u8 77)) := hr 12 _ (by rw [List.getElem?_append_left (by rw [L37.out]; decide)]; exact L12.out)
  clear k1 k2 k3 k2' hr hi hz hs hy d0
  go_wp2
  exact bodyPost_ret (v := .tuple #[.slice (some ⟨r, 0, none⟩) 41 cap, .int .i64 0]) (by simp [results, Tryz.results4, go_sem]) rfl ⟨⟨r, cap, rfl, C0.out, C12.out⟩, B6.out⟩
end Go.Proofs.YtdcjngakmkgbmaaGreat
namespace Go.Proofs.YtdcjngakmkgbmaaGreat
set_option linter.unusedVariables false
open Go.RowKit
set_option maxRecDepth 20000 in
set_option maxHeartbeats 8000000 in
theorem EncodeX_0 (m : ImR) (x1 x2 x3 : Option Addr) (p1 p2 p3 : Nat) (w : World) {S : Nat → Prop} (hS : ∀ b, S b → b < w.heap.size) (hq : ImQ S w m x1 x2 x3) (ho : ImOk m) (hc : (chk m).2.2 ≠ 0) :
    Calls Tryz.prog 4 #[.agg #[.string m.nm, .slice x1 m.cs.length p1, .slice x2 m.fs.length p2, .slice x3 m.js.length p3]] w fun e w' => e = .returned (.tuple #[.slice none 0 0, .int .i64 (chk m).2.2]) ∧ Below w.heap.size w w' := by
  have HC : Hid ((chk m).2.2 ≠ 0) := hc
  clear hc
  have HS : Hid (∀ b, S b → b < w.heap.size) := hS
  have HQ : Hid (ImQ S w m x1 x2 x3) := hq
  have OK : Hid (ImOk m) := ho
  clear hS hq ho
  obtain ⟨AW, eW⟩ : ∃ AW, AW = w.alloc (.cells #[.string m.nm, .slice x1 m.cs.length p1, .slice x2 m.fs.length p2, .slice x3 m.js.length p3] 26 (0, 0)) := ⟨_, rfl⟩
  have AB : Hid (Below w.heap.size w AW) := by rw [eW]; exact (Below.refl _ _).alloc (Nat.le_refl _) _
  have AX : Hid (AW.heap[w.heap.size]? = some (.cells #[.string m.nm, .slice x1 m.cs.length p1, .slice x2 m.fs.length p2, .slice x3 m.js.length p3] 26 (0, 0))) := by rw [eW]; exact heap_alloc_last _ _
  have SV : Hid (∀ V, Below w.heap.size w V → ∀ b, S b → b < V.heap.size) := fun V h b hb => Nat.lt_of_lt_of_le (HS.out b hb) h.size
  have QV : Hid (∀ V, Below w.heap.size w V → ImQ S V m x1 x2 x3) := fun V h => HQ.out.fr (fun q hqq => h.cell (HS.out _ hqq))
  have i0 : AW.cell? ⟨w.heap.size, 0, none⟩ = some (.string m.nm) := by simp [World.cell?, AX.out]
  have i1 : AW.cell? ⟨w.heap.size, 1, none⟩ = some (.slice x1 m.cs.length p1) := by simp [World.cell?, AX.out]
  have i2 : AW.cell? ⟨w.heap.size, 2, none⟩ = some (.slice x2 m.fs.length p2) := by simp [World.cell?, AX.out]
  have i3 : AW.cell? ⟨w.heap.size, 3, none⟩ = some (.slice x3 m.js.length p3) := by simp [World.cell?, AX.out]
  have CK : Hid (Calls Tryz.prog 10 #[.agg #[.string m.nm, .slice x1 m.cs.length p1, .slice x2 m.fs.length p2, .slice x3 m.js.length p3]] AW fun e w' => e = .returned (.tuple #[.int .i64 (chk m).1, .int .i64 (chk m).2.1, .int .i64 (chk m).2.2]) ∧ Below AW.heap.size AW w') := CheckI_of m x1 x2 x3 p1 p2 p3 _ (SV.out _ AB.out) (QV.out _ AB.out) OK.out
  generalize (chk m).1 = c1 at *
  generalize (chk m).2.1 = c2 at *
  generalize (chk m).2.2 = c3 at *
  go_enter Tryz.func4, Tryz.ntmps4
  go_upto_region 1 with fail
  rw [← eW]
  clear eW
  go_wp2_with (go_at_call 10; refine (CK.out).mono ?_)
  first | (rintro e w1 ⟨he, hb1⟩; have he' := he) | (rintro e w1 he hb1)
  subst he
  have B1 : Hid (Below AW.heap.size AW w1) := hb1
  have X1 : Hid (w1.heap[w.heap.size]? = some (.cells #[.string m.nm, .slice x1 m.cs.length p1, .slice x2 m.fs.length p2, .slice x3 m.js.length p3] 26 (0, 0))) := (hb1.block _ (blk_in AX.out)).trans AX.out
  have GB1 : Hid (Below w.heap.size w w1) := AB.out.trans (hb1.mono AB.out.size)
  clear hb1 i0 i1 i2 i3
  go_upto_region 2 with fail
  have n1 : (c3 == 0) = false := by simp [HC.out]
  have n2 : (c3 != 0) = true := by simp [HC.out]
  clear CK HC
  go_wp2
  exact bodyPost_ret (v := .tuple #[.slice none 0 0, .int .i64 c3]) (by simp [results, Tryz.results4, go_sem]) rfl ⟨rfl, GB1.out⟩
set_option maxRecDepth 20000 in
set_option maxHeartbeats 8000000 in
theorem EncodeX_1 (m : ImR) (x1 x2 x3 : Option Addr) (p1 p2 p3 : Nat) (w : World) {S : Nat → Prop} (hS : ∀ b, S b → b < w.heap.size) (hq : ImQ S w m x1 x2 x3) (ho : ImOk m) (hc : (chk m).2.2 = 0) (hg : 4194304 < (imbN m).length + 4) :
    Calls Tryz.prog 4 #[.agg #[.string m.nm, .slice x1 m.cs.length p1, .slice x2 m.fs.length p2, .slice x3 m.js.length p3]] w fun e w' => e = .returned (.tuple #[.slice none 0 0, .int .i64 4]) ∧ Below w.heap.size w w' := by
  have SS : Hid (ImS m) := chk_small hc ho
  have HC : Hid ((chk m).2.2 = 0) := hc
  have HG : Hid (4194304 < (imbN m).length + 4) := hg
  clear hc hg
  have HS : Hid (∀ b, S b → b < w.heap.size) := hS
  have HQ : Hid (ImQ S w m x1 x2 x3) := hq
  have OK : Hid (ImOk m) := ho
  clear hS hq ho
  obtain ⟨AW, eW⟩ : ∃ AW, AW = w.alloc (.cells #[.string m.nm, .slice x1 m.cs.length p1, .slice x2 m.fs.length p2, .slice x3 m.js.length p3] 26 (0, 0)) := ⟨_, rfl⟩
  have AB : Hid (Below w.heap.size w AW) := by rw [eW]; exact (Below.refl _ _).alloc (Nat.le_refl _) _
  have AX : Hid (AW.heap[w.heap.size]? = some (.cells #[.string m.nm, .slice x1 m.cs.length p1, .slice x2 m.fs.length p2, .slice x3 m.js.length p3] 26 (0, 0))) := by rw [eW]; exact heap_alloc_last _ _
  have SV : Hid (∀ V, Below w.heap.size w V → ∀ b, S b → b < V.heap.size) := fun V h b hb => Nat.lt_of_lt_of_le (HS.out b hb) h.size
  have QV : Hid (∀ V, Below w.heap.size w V → ImQ S V m x1 x2 x3) := fun V h => HQ.out.fr (fun q hqq => h.cell (HS.out _ hqq))
  have i0 : AW.cell? ⟨w.heap.size, 0, none⟩ = some (.string m.nm) := by simp [World.cell?, AX.out]
  have i1 : AW.cell? ⟨w.heap.size, 1, none⟩ = some (.slice x1 m.cs.length p1) := by simp [World.cell?, AX.out]
  have i2 : AW.cell? ⟨w.heap.size, 2, none⟩ = some (.slice x2 m.fs.length p2) := by simp [World.cell?, AX.out]
  have i3 : AW.cell? ⟨w.heap.size, 3, none⟩ = some (.slice x3 m.js.length p3) := by simp [World.cell?, AX.out]
  have CK : Hid (Calls Tryz.prog 10 #[.agg #[.string m.nm, .slice x1 m.cs.length p1, .slice x2 m.fs.length p2, .slice x3 m.js.length p3]] AW fun e w' => e = .returned (.tuple #[.int .i64 (chk m).1, .int .i64 (chk m).2.1, .int .i64 (chk m).2.2]) ∧ Below AW.heap.size AW w') := CheckI_of m x1 x2 x3 p1 p2 p3 _ (SV.out _ AB.out) (QV.out _ AB.out) OK.out
  have IMX : Hid (∀ V, Below w.heap.size w V → ∀ g, w.heap.size ≤ g → Wb g g [] V → Calls Tryz.prog 11 #[.pointer (some ⟨g, 0, none⟩), .agg #[.string m.nm, .slice x1 m.cs.length p1, .slice x2 m.fs.length p2, .slice x3 m.js.length p3]] V fun e w' => e = .returned (.tuple #[]) ∧ Wb g g (imbN m) w' ∧ Bq g V w') := fun V hV g hg hW => imageX g g m x1 x2 x3 p1 p2 p3 V hW (fun b hb => Nat.lt_of_lt_of_le (HS.out b hb) hg) (QV.out V hV) SS.out
  have LT4 : Hid (4 ≤ (imbN m).length) := by show _ ≤ _; unfold imbN; rw [List.length_append, List.length_append, List.length_append, List.length_append, sbN_len]; show 4 ≤ 4 + _ + _ + _ + _; omega
  have LE : Hid ((imbN m).length ≤ 17592186044416) := by
    obtain ⟨o1, o2, o3, o4, o5, o6, o7⟩ := SS.out
    have z1 := lsC_le o2
    have z2 := lsF_le o3
    have z3 := lsJ_le o4
    have z0 : m.nm.size ≤ 4194304 := o1
    show _ ≤ _
    unfold imbN
    rw [List.length_append, List.length_append, List.length_append, List.length_append, sbN_len, tbN_len]
    show 4 + _ + _ + _ + _ ≤ _
    omega
  have LTB : Hid (Lt (imbN m)) := Lt.imb m
  generalize imbN m = l at *
  generalize (chk m).1 = c1 at *
  generalize (chk m).2.1 = c2 at *
  generalize (chk m).2.2 = c3 at *
  go_enter Tryz.func4, Tryz.ntmps4
  go_upto_region 1 with fail
  rw [← eW]
  clear eW
  go_wp2_with (go_at_call 10; refine (CK.out).mono ?_)
  first | (rintro e w1 ⟨he, hb1⟩; have he' := he) | (rintro e w1 he hb1)
  subst he
  have B1 : Hid (Below AW.heap.size AW w1) := hb1
  have X1 : Hid (w1.heap[w.heap.size]? = some (.cells #[.string m.nm, .slice x1 m.cs.length p1, .slice x2 m.fs.length p2, .slice x3 m.js.length p3] 26 (0, 0))) := (hb1.block _ (blk_in AX.out)).trans AX.out
  have GB1 : Hid (Below w.heap.size w w1) := AB.out.trans (hb1.mono AB.out.size)
  clear hb1 i0 i1 i2 i3
  go_upto_region 2 with fail
  have e3 : c3 = 0 := HC.out
  subst e3
  clear HC CK
  go_upto_region 4 with fail
  obtain ⟨g, eg⟩ : ∃ g, g = w1.heap.size := ⟨_, rfl⟩
  obtain ⟨w2, e2⟩ : ∃ w2, w2 = w1.alloc (.cells #[.slice none 0 0] 58 (0, 0)) := ⟨_, rfl⟩
  have H2 : Hid (Wb g g [] w2) := by rw [e2, eg]; exact Wq.new _
  have B2 : Hid (Below g w1 w2) := by rw [e2, eg]; exact (Below.refl _ _).alloc (Nat.le_refl _) _
  have X2 : Hid (w2.heap[w.heap.size]? = some (.cells #[.string m.nm, .slice x1 m.cs.length p1, .slice x2 m.fs.length p2, .slice x3 m.js.length p3] 26 (0, 0))) := (B2.out.block _ (by rw [eg]; exact blk_in X1.out)).trans X1.out
  have i0 : w2.cell? ⟨w.heap.size, 0, none⟩ = some (.string m.nm) := by simp [World.cell?, X2.out]
  have i1 : w2.cell? ⟨w.heap.size, 1, none⟩ = some (.slice x1 m.cs.length p1) := by simp [World.cell?, X2.out]
  have i2 : w2.cell? ⟨w.heap.size, 2, none⟩ = some (.slice x2 m.fs.length p2) := by simp [World.cell?, X2.out]
  have i3 : w2.cell? ⟨w.heap.size, 3, none⟩ = some (.slice x3 m.js.length p3) := by simp [World.cell?, X2.out]
  go_upto_region 5 with fail
  rw [← e2, ← eg]
  have GB : Hid (Below w.heap.size w w2) := GB1.out.trans (B2.out.mono (by rw [eg]; exact GB1.out.size))
  have WG : Hid (w.heap.size ≤ g) := by rw [eg]; exact GB1.out.size
  clear e2 eg
  go_wp2_with (go_at_call 11; refine (IMX.out _ GB.out g WG.out H2.out).mono ?_)
  first | (rintro e w3 ⟨he, h3, q3⟩; have he' := he) | (rintro e w3 he h3 q3)
  subst he
  have GB3 : Hid (Below w.heap.size w w3) := GB.out.trans (q3.b.mono WG.out)
  have lt4 := LT4.out
  have hle := LE.out
  obtain ⟨k, c, hg, hown, hk, hcells⟩ := h3.full (by rw [bvL_len]; omega)
  rw [bvL_len] at hg hown
  have G3 : Hid (w3.heap[g]? = some (.cells #[.slice (some ⟨k, 0, none⟩) l.length c] 58 (0, 0))) := hg
  have O3 : Hid (w3.ownsRow g 5 1 (.slice (some ⟨k, 0, none⟩) l.length c) l.length (bvL l)) := hown
  have SC : Hid (∀ (j : Nat) b, l[j]? = some b → ∃ a, (some ⟨k, 0, none⟩ : Option Addr) = some a ∧ a.block < w3.heap.size ∧ w3.cell? (a.add j) = some (.int .u8 b)) := fun j b hj => by
    refine ⟨_, rfl, hk, ?_⟩
    rw [Addr.add_mid, Nat.zero_add]
    exact hcells j _ (by unfold bvL; rw [List.getElem?_map, hj]; rfl)
  have d0 : w3.cell? ⟨g, 0, none⟩ = some (.slice (some ⟨k, 0, none⟩) l.length c) := by simp [World.cell?, G3.out]
  have ew : wrap64 ((l.length : Int) + 4) = (l.length : Int) + 4 := by unfold wrap64; omega
  clear h3 q3 hg hown hcells i0 i1 i2 i3 hle lt4
  have b1 : (4194304 : Int) < (l.length : Int) + 4 := by have := HG.out; omega
  clear HG
  go_wp2
  exact bodyPost_ret (v := .tuple #[.slice none 0 0, .int .i64 4]) (by simp [results, Tryz.results4, go_sem]) rfl ⟨rfl, GB3.out⟩
set_option maxRecDepth 20000 in
set_option maxHeartbeats 8000000 in
theorem EncodeX_2 (m : ImR) (x1 x2 x3 : Option Addr) (p1 p2 p3 : Nat) (w : World) {S : Nat → Prop} (hS : ∀ b, S b → b < w.heap.size) (hq : ImQ S w m x1 x2 x3) (ho : ImOk m) (hc : (chk m).2.2 = 0) (hg : ¬ 4194304 < (imbN m).length + 4) :
    Calls Tryz.prog 4 #[.agg #[.string m.nm, .slice x1 m.cs.length p1, .slice x2 m.fs.length p2, .slice x3 m.js.length p3]] w fun e w' => (∃ v, e = .returned (.tuple #[v, .int .i64 0]) ∧ w'.ownsRow w.heap.size 5 1 v (imbN m ++ cr4N (crcF (imbN m))).length (bvL (imbN m ++ cr4N (crcF (imbN m))))) ∧ Below w.heap.size w w' := by
  have SS : Hid (ImS m) := chk_small hc ho
  have HC : Hid ((chk m).2.2 = 0) := hc
  have HG : Hid (¬ 4194304 < (imbN m).length + 4) := hg
  clear hc hg
  have HS : Hid (∀ b, S b → b < w.heap.size) := hS
  have HQ : Hid (ImQ S w m x1 x2 x3) := hq
  have OK : Hid (ImOk m) := ho
  clear hS hq ho
  obtain ⟨AW, eW⟩ : ∃ AW, AW = w.alloc (.cells #[.string m.nm, .slice x1 m.cs.length p1, .slice x2 m.fs.length p2, .slice x3 m.js.length p3] 26 (0, 0)) := ⟨_, rfl⟩
  have AB : Hid (Below w.heap.size w AW) := by rw [eW]; exact (Below.refl _ _).alloc (Nat.le_refl _) _
  have AX : Hid (AW.heap[w.heap.size]? = some (.cells #[.string m.nm, .slice x1 m.cs.length p1, .slice x2 m.fs.length p2, .slice x3 m.js.length p3] 26 (0, 0))) := by rw [eW]; exact heap_alloc_last _ _
  have SV : Hid (∀ V, Below w.heap.size w V → ∀ b, S b → b < V.heap.size) := fun V h b hb => Nat.lt_of_lt_of_le (HS.out b hb) h.size
  have QV : Hid (∀ V, Below w.heap.size w V → ImQ S V m x1 x2 x3) := fun V h => HQ.out.fr (fun q hqq => h.cell (HS.out _ hqq))
  have i0 : AW.cell? ⟨w.heap.size, 0, none⟩ = some (.string m.nm) := by simp [World.cell?, AX.out]
  have i1 : AW.cell? ⟨w.heap.size, 1, none⟩ = some (.slice x1 m.cs.length p1) := by simp [World.cell?, AX.out]
  have i2 : AW.cell? ⟨w.heap.size, 2, none⟩ = some (.slice x2 m.fs.length p2) := by simp [World.cell?, AX.out]
  have i3 : AW.cell? ⟨w.heap.size, 3, none⟩ = some (.slice x3 m.js.length p3) := by simp [World.cell?, AX.out]
  have CK : Hid (Calls Tryz.prog 10 #[.agg #[.string m.nm, .slice x1 m.cs.length p1, .slice x2 m.fs.length p2, .slice x3 m.js.length p3]] AW fun e w' => e = .returned (.tuple #[.int .i64 (chk m).1, .int .i64 (chk m).2.1, .int .i64 (chk m).2.2]) ∧ Below AW.heap.size AW w') := CheckI_of m x1 x2 x3 p1 p2 p3 _ (SV.out _ AB.out) (QV.out _ AB.out) OK.out
  have IMX : Hid (∀ V, Below w.heap.size w V → ∀ g, w.heap.size ≤ g → Wb g g [] V → Calls Tryz.prog 11 #[.pointer (some ⟨g, 0, none⟩), .agg #[.string m.nm, .slice x1 m.cs.length p1, .slice x2 m.fs.length p2, .slice x3 m.js.length p3]] V fun e w' => e = .returned (.tuple #[]) ∧ Wb g g (imbN m) w' ∧ Bq g V w') := fun V hV g hg hW => imageX g g m x1 x2 x3 p1 p2 p3 V hW (fun b hb => Nat.lt_of_lt_of_le (HS.out b hb) hg) (QV.out V hV) SS.out
  have LT4 : Hid (4 ≤ (imbN m).length) := by show _ ≤ _; unfold imbN; rw [List.length_append, List.length_append, List.length_append, List.length_append, sbN_len]; show 4 ≤ 4 + _ + _ + _ + _; omega
  have LE : Hid ((imbN m).length ≤ 17592186044416) := by
    obtain ⟨o1, o2, o3, o4, o5, o6, o7⟩ := SS.out
    have z1 := lsC_le o2
    have z2 := lsF_le o3
    have z3 := lsJ_le o4
    have z0 : m.nm.size ≤ 4194304 := o1
    show _ ≤ _
    unfold imbN
    rw [List.length_append, List.length_append, List.length_append, List.length_append, sbN_len, tbN_len]
    show 4 + _ + _ + _ + _ ≤ _
    omega
  have LTB : Hid (Lt (imbN m)) := Lt.imb m
  generalize imbN m = l at *
  generalize (chk m).1 = c1 at *
  generalize (chk m).2.1 = c2 at *
  generalize (chk m).2.2 = c3 at *
  go_enter Tryz.func4, Tryz.ntmps4
  go_upto_region 1 with fail
  rw [← eW]
  clear eW
  go_wp2_with (go_at_call 10; refine (CK.out).mono ?_)
  first | (rintro e w1 ⟨he, hb1⟩; have he' := he) | (rintro e w1 he hb1)
  subst he
  have B1 : Hid (Below AW.heap.size AW w1) := hb1
  have X1 : Hid (w1.heap[w.heap.size]? = some (.cells #[.string m.nm, .slice x1 m.cs.length p1, .slice x2 m.fs.length p2, .slice x3 m.js.length p3] 26 (0, 0))) := (hb1.block _ (blk_in AX.out)).trans AX.out
  have GB1 : Hid (Below w.heap.size w w1) := AB.out.trans (hb1.mono AB.out.size)
  clear hb1 i0 i1 i2 i3
  go_upto_region 2 with fail
  have e3 : c3 = 0 := HC.out
  subst e3
  clear HC CK
  go_upto_region 4 with fail
  obtain ⟨g, eg⟩ : ∃ g, g = w1.heap.size := ⟨_, rfl⟩
  obtain ⟨w2, e2⟩ : ∃ w2, w2 = w1.alloc (.cells #[.slice none 0 0] 58 (0, 0)) := ⟨_, rfl⟩
  have H2 : Hid (Wb g g [] w2) := by rw [e2, eg]; exact Wq.new _
  have B2 : Hid (Below g w1 w2) := by rw [e2, eg]; exact (Below.refl _ _).alloc (Nat.le_refl _) _
  have X2 : Hid (w2.heap[w.heap.size]? = some (.cells #[.string m.nm, .slice x1 m.cs.length p1, .slice x2 m.fs.length p2, .slice x3 m.js.length p3] 26 (0, 0))) := (B2.out.block _ (by rw [eg]; exact blk_in X1.out)).trans X1.out
  have i0 : w2.cell? ⟨w.heap.size, 0, none⟩ = some (.string m.nm) := by simp [World.cell?, X2.out]
  have i1 : w2.cell? ⟨w.heap.size, 1, none⟩ = some (.slice x1 m.cs.length p1) := by simp [World.cell?, X2.out]
  have i2 : w2.cell? ⟨w.heap.size, 2, none⟩ = some (.slice x2 m.fs.length p2) := by simp [World.cell?, X2.out]
  have i3 : w2.cell? ⟨w.heap.size, 3, none⟩ = some (.slice x3 m.js.length p3) := by simp [World.cell?, X2.out]
  go_upto_region 5 with fail
  rw [← e2, ← eg]
  have GB : Hid (Below w.heap.size w w2) := GB1.out.trans (B2.out.mono (by rw [eg]; exact GB1.out.size))
  have WG : Hid (w.heap.size ≤ g) := by rw [eg]; exact GB1.out.size
  clear e2 eg
  go_wp2_with (go_at_call 11; refine (IMX.out _ GB.out g WG.out H2.out).mono ?_)
  first | (rintro e w3 ⟨he, h3, q3⟩; have he' := he) | (rintro e w3 he h3 q3)
  subst he
  have GB3 : Hid (Below w.heap.size w w3) := GB.out.trans (q3.b.mono WG.out)
  have lt4 := LT4.out
  have hle := LE.out
  obtain ⟨k, c, hg, hown, hk, hcells⟩ := h3.full (by rw [bvL_len]; omega)
  rw [bvL_len] at hg hown
  obtain ⟨n, hn⟩ : ∃ n, n = l.length := ⟨_, rfl⟩
  have NL : Hid (n = l.length) := hn
  rw [← hn] at hg hown
  clear hn
  have G3 : Hid (w3.heap[g]? = some (.cells #[.slice (some ⟨k, 0, none⟩) n c] 58 (0, 0))) := hg
  have O3 : Hid (w3.ownsRow g 5 1 (.slice (some ⟨k, 0, none⟩) n c) n (bvL l)) := hown
  have SC : Hid (∀ (j : Nat) b, l[j]? = some b → ∃ a, (some ⟨k, 0, none⟩ : Option Addr) = some a ∧ a.block < w3.heap.size ∧ w3.cell? (a.add j) = some (.int .u8 b)) := fun j b hj => by
    refine ⟨_, rfl, hk, ?_⟩
    rw [Addr.add_mid, Nat.zero_add]
    exact hcells j _ (by unfold bvL; rw [List.getElem?_map, hj]; rfl)
  have d0 : w3.cell? ⟨g, 0, none⟩ = some (.slice (some ⟨k, 0, none⟩) n c) := by simp [World.cell?, G3.out]
  have NS : Hid (n ≤ 4194304) := by show _ ≤ _; have := NL.out; have := HG.out; omega
  obtain ⟨N4, ew, b1⟩ : ∃ N4 : Int, wrap64 ((n : Int) + 4) = N4 ∧ ¬ (4194304 : Int) < N4 := ⟨_, rfl, by have := NL.out; have := HG.out; unfold wrap64; omega⟩
  clear h3 q3 hg hown hcells i0 i1 i2 i3 hle lt4
  clear HG
  go_upto_region 8 with fail
  go_wp2_with (go_at_call 12; refine (sumOfX_of _ n c l _ (by have := NS.out; omega) NL.out.symm LTB.out SC.out).mono ?_)
  first | (rintro e w4 ⟨he, hb4⟩; have he' := he) | (rintro e w4 he hb4)
  subst he
  have B4 : Hid (Below w3.heap.size w3 w4) := hb4
  have CR : Hid (bvL (cr4N (crcF l)) = _) := cr4_bv (crcF l)
  unfold cr4
  generalize uW (crcF l) % (256 : Int) = b0 at *
  generalize uW (crcF l) / (256 : Int) % (256 : Int) = b1 at *
  generalize uW (crcF l) / (65536 : Int) % (256 : Int) = b2 at *
  generalize uW (crcF l) / (16777216 : Int) % (256 : Int) = b3 at *
  clear hb4 d0
  obtain ⟨w5, e5⟩ : ∃ w5, w5 = w4.alloc (.cells #[.int .u8 b0, .int .u8 b1, .int .u8 b2, .int .u8 b3] 60 (0, 0)) := ⟨_, rfl⟩
  have X5 : Hid (w5.heap[w4.heap.size]? = some (.cells #[.int .u8 b0, .int .u8 b1, .int .u8 b2, .int .u8 b3] 60 (0, 0))) := by rw [e5]; exact heap_alloc_last _ _
  have B5 : Hid (Below w3.heap.size w3 w5) := by rw [e5]; exact B4.out.trans (((Below.refl _ _).alloc (Nat.le_refl _) _).mono B4.out.size)
  go_upto_region 9 with fail
  rw [← e5]
  clear e5
  have d0 : w5.cell? ⟨g, 0, none⟩ = some (.slice (some ⟨k, 0, none⟩) n c) := (B5.out.cell (p := ⟨g, 0, none⟩) (blk_in G3.out)).trans (by simp [World.cell?, G3.out])
  have O5 : Hid (w5.drew.ownsRow g 5 1 (.slice (some ⟨k, 0, none⟩) n c) n (bvL l)) := O3.out.kept (row := none) ⟨B5.out.os, B5.out.tape, B5.out.output, B5.out.size, fun j hj _ => B5.out.block j hj⟩ (by simp [Value.ownBlock])
  have S5 : Hid (∀ (j : Nat) u, ([.int .u8 b0, .int .u8 b1, .int .u8 b2, .int .u8 b3] : List Value)[j]? = some u → w5.drew.cell? ((⟨w4.heap.size, 0, none⟩ : Addr).add j) = some u) := fun j u hu => by
    rw [Addr.add_mid, Nat.zero_add]
    show w5.cell? _ = _
    rw [World.cell?, X5.out]
    simpa using hu
  have GK : Hid (w.heap.size ≤ g ∧ g ≤ w5.heap.size) := ⟨WG.out, by have := blk_in G3.out; have := B5.out.size; omega⟩
  have GB5 : Hid (Below w.heap.size w w5.drew) := (GB3.out.trans (B5.out.mono GB3.out.size)).drew
  obtain ⟨i, hi, hz, hs, hy⟩ := u8_info
  go_region_law ((rw [if_pos (by rfl)]; refine wp_append_own _ _ _ 27 rfl g 5 i _ 1 1 Tryz.underlying27 hi hz hs hy rfl (by decide) _ n (bvL l) rfl O5.out ⟨w4.heap.size, 0, none⟩ 4 4 [.int .u8 b0, .int .u8 b1, .int .u8 b2, .int .u8 b3] rfl rfl S5.out (by intro u hu; simp at hu; rcases hu with rfl | rfl | rfl | rfl <;> rfl) (by have := NL.out; have := LE.out; unfold maxLen; omega) (by have := NL.out; have := LE.out; omega) GK.out.2 ?_; intro v' w' k1 k2 k3))
  have k2' : w5.drew.grownBy w' (Value.slice (some ⟨k, 0, none⟩) n c).ownBlock := k2
  have B6 : Hid (Below w.heap.size w w') := GB5.out.grown k2' (by have := GK.out; show _ ≤ w5.heap.size; omega) (fun j hj => by have := (O5.out.lt j hj).1; have := GK.out.1; omega)
  have K1 : Hid (w'.ownsRow w.heap.size 5 1 v' (l ++ cr4N (crcF l)).length (bvL (l ++ cr4N (crcF l)))) := by
    show World.ownsRow _ _ _ _ _ _ _
    rw [bvL_app, CR.out, List.length_append, ← NL.out]
    exact ownsRow_mono k1 GK.out.1
  clear k1 k2 k3 k2' hi hz hs hy d0
  go_wp2
  exact bodyPost_ret (v := .tuple #[v', .int .i64 0]) (by simp [results, Tryz.results4, go_sem]) rfl ⟨⟨v', rfl, K1.out⟩, B6.out⟩
end Go.Proofs.YtdcjngakmkgbmaaGreat
namespace Go.Proofs.YtdcjngakmkgbmaaGreat
set_option linter.unusedVariables false
set_option linter.unusedSimpArgs false
open Go.RowKit
/-- The bytes between the beginning and the sum. -/
def inn (l : List Nat) : List Nat := l.take (l.length - 4)
def decM (l : List Nat) : ImR := (rdIm (inn l) ⟨4, 0, 0⟩).1
def decT (l : List Nat) : RS := rdEnd (inn l) (rdIm (inn l) ⟨4, 0, 0⟩).2
/-- What is at fault, and where. -/
def decE (l : List Nat) : Int × Int := if (frO l).2 ≠ 0 then frO l else if (decT l).y ≠ 0 then ((decT l).a, (decT l).y) else (0, (chk (decM l)).2.2)
theorem jump_ret {l : Nat} {J : Act → World → Prop} {Q : Exit → Act → World → Prop} {a : Act} {w : World} (h : Q .ret a w) : Exit.jump l J Q .ret a w := h
theorem img_info : (Tryz.prog.info? 26).map (·.size) = some 4 := by kernel_rfl
theorem frO_ok {l : List Nat} (h : (frO l).2 = 0) : 8 ≤ l.length ∧ l.length ≤ 4194304 := by
  unfold frO at h
  by_cases q : 4194304 < l.length
  · rw [if_pos q] at h; cases h
  · rw [if_neg q] at h
    cases hf : fm l with
    | some i => rw [hf] at h; cases h
    | none =>
      rw [hf] at h
      by_cases q8 : l.length < 8
      · have h' : (if l.length < 8 then ((l.length : Int), (2 : Int)) else if cr4N (crcF (l.take (l.length - 4))) = l.drop (l.length - 4) then (0, 0) else ((l.length : Int) - 4, 201)).2 = 0 := h
        rw [if_pos q8] at h'; cases h'
      · exact ⟨by omega, by omega⟩
theorem inn_len (l : List Nat) : (inn l).length = l.length - 4 := by unfold inn; rw [List.length_take]; omega
theorem inn_at {l : List Nat} {j b : Nat} (h : (inn l)[j]? = some b) : l[j]? = some b := by
  unfold inn at h
  rw [List.getElem?_take] at h
  split at h
  · exact h
  · cases h
theorem decT_0 {l : List Nat} (h : (decT l).y = 0) : (decT l).a = 0 ∧ (rdIm (inn l) ⟨4, 0, 0⟩).2.y = 0 := by
  have q := kdEnd (inn l) _ h
  have q2 := kdIm (inn l) ⟨4, 0, 0⟩ q.1
  exact ⟨q.2.trans q2.2, q.1⟩
theorem dec_ok {l : List Nat} (h8 : ∀ b ∈ l, b < 256) (h : (frO l).2 = 0) (hy : (decT l).y = 0) : ImOk (decM l) := by
  have hl := frO_ok h
  have hn : (inn l).length ≤ 4194304 := by rw [inn_len]; omega
  refine okIm (inn l) hn (fun v hv => h8 v (List.mem_of_mem_take (by unfold inn at hv; exact hv))) (fun s => Nat.le_trans (okT (inn l) s) hn) ⟨4, 0, 0⟩ ?_ (decT_0 hy).2
  show 4 ≤ (inn l).length
  rw [inn_len]; omega
theorem frameBig (x : Option Addr) (c : Nat) (l : List Nat) (w : World) (hb : 4194304 < l.length) :
    Calls Tryz.prog 13 #[.slice x l.length c] w fun e w' => e = .returned (.tuple #[.int .i64 (frO l).1, .int .i64 (frO l).2]) ∧ Below w.heap.size w w' := by
  have hb' : (4194304 : Int) < l.length := by omega
  have e : frO l = (0, 4) := by unfold frO; rw [if_pos hb]
  rw [e]
  clear hb e
  go_enter Tryz.func13, Tryz.ntmps13
  go_wp2
  go_ret2
  exact ⟨rfl, Below.refl _ _⟩
end Go.Proofs.YtdcjngakmkgbmaaGreat
namespace Go.Proofs.YtdcjngakmkgbmaaGreat
set_option linter.unusedVariables false
set_option linter.unusedSimpArgs false
open Go.RowKit
/-- The file of an image. -/
def fileN (m : ImR) : List Nat := imbN m ++ cr4N (crcF (imbN m))
theorem cr4N_len (c : BitVec 32) : (cr4N c).length = 4 := rfl
theorem fileN_len (m : ImR) : (fileN m).length = (imbN m).length + 4 := by unfold fileN; rw [List.length_append, cr4N_len]
theorem inn_file (m : ImR) : inn (fileN m) = imbN m := by
  unfold inn
  rw [fileN_len, Nat.add_sub_cancel]
  unfold fileN
  exact List.take_left' rfl
theorem drop_file (m : ImR) : (fileN m).drop ((fileN m).length - 4) = cr4N (crcF (imbN m)) := by
  rw [fileN_len, Nat.add_sub_cancel]
  unfold fileN
  exact List.drop_left' rfl
/-- What a frame without a fault says. -/
theorem fr_ok {l : List Nat} (h : (frO l).2 = 0) : 8 ≤ l.length ∧ l.length ≤ 4194304 ∧ fm l = none ∧ cr4N (crcF (inn l)) = l.drop (l.length - 4) := by
  obtain ⟨h1, h2⟩ := frO_ok h
  unfold frO at h
  rw [if_neg (by omega)] at h
  cases hf : fm l with
  | some i => rw [hf] at h; cases h
  | none =>
    rw [hf] at h
    have h' : (if l.length < 8 then ((l.length : Int), (2 : Int)) else if cr4N (crcF (inn l)) = l.drop (l.length - 4) then (0, 0) else ((l.length : Int) - 4, 201)).2 = 0 := h
    rw [if_neg (by omega)] at h'
    by_cases q : cr4N (crcF (inn l)) = l.drop (l.length - 4)
    · exact ⟨h1, h2, rfl, q⟩
    · rw [if_neg q] at h'
      exact absurd h' (show ¬ (201 : Int) = 0 by decide)
theorem fr_yes {l : List Nat} (h1 : 8 ≤ l.length) (h2 : l.length ≤ 4194304) (hf : fm l = none) (q : cr4N (crcF (inn l)) = l.drop (l.length - 4)) : frO l = (0, 0) := by
  unfold frO
  rw [if_neg (by omega), hf]
  show (if l.length < 8 then ((l.length : Int), (2 : Int)) else if cr4N (crcF (inn l)) = l.drop (l.length - 4) then (0, 0) else ((l.length : Int) - 4, 201)) = _
  rw [if_neg (by omega), if_pos q]
theorem fm_mag {l : List Nat} (h : fm l = none) (h4 : 4 ≤ l.length) : l.take 4 = [114, 108, 121, 1] := by
  unfold fm at h
  by_cases q0 : 0 < l.length ∧ l.getD 0 0 ≠ 114
  · rw [if_pos q0] at h; cases h
  rw [if_neg q0] at h
  by_cases q1 : 1 < l.length ∧ l.getD 1 0 ≠ 108
  · rw [if_pos q1] at h; cases h
  rw [if_neg q1] at h
  by_cases q2 : 2 < l.length ∧ l.getD 2 0 ≠ 121
  · rw [if_pos q2] at h; cases h
  rw [if_neg q2] at h
  by_cases q3 : 3 < l.length ∧ l.getD 3 0 ≠ 1
  · rw [if_pos q3] at h; cases h
  match l, h4 with
  | a :: b :: c :: d :: t, _ =>
    simp at q0 q1 q2 q3
    simp [q0, q1, q2, q3]
theorem fm_of {l : List Nat} (h : l.take 4 = [114, 108, 121, 1]) : fm l = none := by
  match l, h with
  | a :: b :: c :: d :: t, h =>
    simp at h
    obtain ⟨rfl, rfl, rfl, rfl⟩ := h
    unfold fm
    simp
theorem inn_lt {l : List Nat} (h8 : ∀ b ∈ l, b < 256) : ∀ b ∈ inn l, b < 256 := fun b hb => h8 b (List.mem_of_mem_take (by unfold inn at hb; exact hb))
/-- An image of which numbers and kinds are in their ranges. -/
theorem dec_y {l : List Nat} (h8 : ∀ b ∈ l, b < 256) (hf : (frO l).2 = 0) (hy : (decT l).y = 0) : GIm (decM l) ∧ inn l = imbN (decM l) := by
  obtain ⟨h1, h2, h3, h4⟩ := fr_ok hf
  have ln : (inn l).length ≤ 4194304 := by rw [inn_len]; omega
  obtain ⟨z1, z2⟩ := decT_0 hy
  obtain ⟨a1, a2, a3, a4⟩ := (rwIm (inn_lt h8) ln).A ⟨4, 0, 0⟩ z2
  refine ⟨a2, ?_⟩
  have e : ¬ 4 + (imrN (decM l)).length < (inn l).length := fun q => by
    unfold decT rdEnd at hy
    have p : (rdIm (inn l) ⟨4, 0, 0⟩).2.p = 4 + (imrN (decM l)).length := by rw [a4]; rfl
    rw [if_pos (by rw [p]; exact q), if_pos z2] at hy
    exact absurd hy (show ¬ (3 : Int) = 0 by decide)
  have ip : 0 < (imrN (decM l)).length := by
    unfold imrN
    rw [List.length_append, List.length_append, List.length_append, tbN_len]; omega
  have a3' : Sat (inn l) 4 (imrN (decM l)) := a3
  have le := a3'.le ip
  have tk := a3'.take
  rw [imb_r]
  have t4 : (inn l).take 4 = [114, 108, 121, 1] := by
    unfold inn
    rw [List.take_take, Nat.min_eq_left (by omega)]
    exact fm_mag h3 (by omega)
  have td : (inn l).drop 4 = imrN (decM l) := (List.take_of_length_le (show ((inn l).drop 4).length ≤ (imrN (decM l)).length by rw [List.length_drop]; omega)).symm.trans tk
  rw [← t4, ← td]
  exact (List.take_append_drop 4 (inn l)).symm
/-- What is taken is an image's file. -/
theorem dec_form {l : List Nat} (h8 : ∀ b ∈ l, b < 256) (h : (decE l).2 = 0) : l = fileN (decM l) ∧ (chk (decM l)).2.2 = 0 ∧ GIm (decM l) ∧ (decE l).1 = 0 ∧ l.length ≤ 4194304 := by
  unfold decE at h
  by_cases q : (frO l).2 = 0
  · rw [if_neg (fun z => z q)] at h
    by_cases y : (decT l).y = 0
    · rw [if_neg (fun z => z y)] at h
      obtain ⟨g, e⟩ := dec_y h8 q y
      obtain ⟨h1, h2, h3, h4⟩ := fr_ok q
      refine ⟨?_, h, g, ?_, h2⟩
      · unfold fileN
        rw [← e, h4]
        unfold inn
        exact (List.take_append_drop _ _).symm
      · unfold decE
        rw [if_neg (fun z => z q), if_neg (fun z => z y)]
    · rw [if_pos y] at h
      exact absurd h y
  · rw [if_pos q] at h
    exact absurd h q
/-- An image's file is taken, as that image. -/
theorem file_dec {m : ImR} (g : GIm m) (hb : ∀ b ∈ imbN m, b < 256) (hl : (imbN m).length + 4 ≤ 4194304) : decM (fileN m) = m ∧ decE (fileN m) = (0, (chk m).2.2) := by
  have l1 : 4 ≤ (imbN m).length := by rw [imb_r, List.length_append]; simp
  have ip : 0 < (imrN m).length := by
    unfold imrN
    rw [List.length_append, List.length_append, List.length_append, tbN_len]; omega
  have fz : frO (fileN m) = (0, 0) := by
    refine fr_yes (by rw [fileN_len, imb_r, List.length_append]; unfold imrN; rw [List.length_append, List.length_append, List.length_append, tbN_len]; (simp <;> omega)) (by rw [fileN_len]; exact hl) (fm_of ?_) ?_
    · unfold fileN
      rw [imb_r]
      rfl
    · rw [inn_file, drop_file]
  have b := (rwIm hb (by omega)).B ⟨4, 0, 0⟩ m rfl g (by
    show Sat (imbN m) 4 (imrN m)
    intro j v hj
    rw [imb_r, List.getElem?_append_right (by simp)]
    simpa using hj)
  have em : decM (fileN m) = m := by unfold decM; rw [inn_file, b]
  refine ⟨em, ?_⟩
  have et : decT (fileN m) = ⟨4 + (imrN m).length, 0, 0⟩ := by
    unfold decT
    rw [inn_file, b]
    unfold rdEnd
    rw [if_neg (by show ¬ 4 + (imrN m).length < (imbN m).length; rw [imb_r, List.length_append]; simp)]
  unfold decE
  rw [fz, et, em]
  rfl
/-- No beginning of what is taken is, and nothing with more behind. -/
theorem begins {l l' t : List Nat} (h8 : ∀ b ∈ l', b < 256) (hl : l' = l ++ t) (h : (decE l).2 = 0) (h' : (decE l').2 = 0) : t = [] := by
  have h8l : ∀ b ∈ l, b < 256 := fun b hb => h8 b (by rw [hl]; exact List.mem_append_left _ hb)
  obtain ⟨e, c, g, _, hz⟩ := dec_form h8l h
  obtain ⟨e', c', g', _, hz'⟩ := dec_form h8 h'
  have hi : (imbN (decM l')).length ≤ 4194304 := by have := congrArg List.length e'; rw [fileN_len] at this; omega
  have b8 : ∀ b ∈ imbN (decM l'), b < 256 := fun b hb => h8 b (by rw [e']; unfold fileN; exact List.mem_append_left _ hb)
  have n1 : l.length = (imbN (decM l)).length + 4 := by have := congrArg List.length e; rw [fileN_len] at this; exact this
  have n2 : l'.length = (imbN (decM l')).length + 4 := by have := congrArg List.length e'; rw [fileN_len] at this; exact this
  have n3 : l'.length = l.length + t.length := by rw [hl, List.length_append]
  -- what the shorter one says stands in the longer one too
  have sat : Sat (imbN (decM l')) 4 (imrN (decM l)) := fun j v hj => by
    have jl := (List.getElem?_eq_some_iff.1 hj).1
    have q1 : l[4 + j]? = some v := by
      rw [e]
      unfold fileN
      rw [imb_r, List.append_assoc, List.getElem?_append_right (by simp), List.getElem?_append_left (by simpa using jl)]
      simpa using hj
    have q2 : l'[4 + j]? = some v := by rw [hl, List.getElem?_append_left (List.getElem?_eq_some_iff.1 q1).1]; exact q1
    have il : (imbN (decM l)).length = 4 + (imrN (decM l)).length := by rw [imb_r, List.length_append]; simp
    rw [e'] at q2
    unfold fileN at q2
    rw [List.getElem?_append_left (by omega)] at q2
    exact q2
  have b1 := (rwIm b8 hi).B ⟨4, 0, 0⟩ (decM l) rfl g sat
  have b2 := (rwIm b8 hi).B ⟨4, 0, 0⟩ (decM l') rfl g' (by
    show Sat (imbN (decM l')) 4 (imrN (decM l'))
    intro j v hj
    rw [imb_r, List.getElem?_append_right (by simp)]
    simpa using hj)
  have em : decM l = decM l' := by have := b1.symm.trans b2; exact (Prod.mk.inj this).1
  rw [em] at n1
  exact List.eq_nil_of_length_eq_zero (by omega)
end Go.Proofs.YtdcjngakmkgbmaaGreat
namespace Go.Proofs.YtdcjngakmkgbmaaGreat
set_option linter.unusedVariables false
set_option linter.unusedSimpArgs false
open Go.RowKit
theorem Sb.cap {B : Nat} {l : List Nat} {x : Option Addr} {n c : Nat} {V : World} (h : Sb B l (.slice x n c) V) : l.length ≤ c := by
  have hn := h.len
  rcases h.2 with ⟨hv, h1⟩ | ⟨g, cap, cur, hv, hb, hg, hc, hm, hs, ht⟩
  · omega
  · cases hv; omega
theorem Sb.bysl {B : Nat} {l : List Nat} {x : Option Addr} {n c : Nat} {V : World} (h : Sb B l (.slice x n c) V) : BySl x l V := fun k b hb => by
  have hl := (List.getElem?_eq_some_iff.1 hb).1
  obtain ⟨a, ha, hs, hc⟩ := h.cell k b hb
  rcases h.2 with ⟨hv, h1⟩ | ⟨g, cap, cur, hv, _⟩
  · omega
  · cases hv
    cases ha
    rw [Addr.add_mid] at hc
    exact ⟨g, 0, rfl, hs, hc⟩
/-- The bytes of a slice, wherever it points. -/
theorem BySl.at {x : Option Addr} {l : List Nat} {w : World} (h : BySl x l w) (j b : Nat) (hj : l[j]? = some b) : ∃ a, x = some a ∧ a.block < w.heap.size ∧ w.cell? (a.add j) = some (.int .u8 (b : Int)) := by
  obtain ⟨kb, o, e, h1, h2⟩ := h j b hj
  exact ⟨⟨kb, o, none⟩, e, h1, by rw [Addr.add_mid]; exact h2⟩
theorem BySl.up {x : Option Addr} {l : List Nat} {w W : World} (h : BySl x l w) (hb : Below w.heap.size w W) : BySl x l W := fun k b hk => by
  obtain ⟨kb, o, e, h1, h2⟩ := h k b hk
  exact ⟨kb, o, e, Nat.lt_of_lt_of_le h1 hb.size, (hb.cell (p := ⟨kb, o + k, none⟩) h1).trans h2⟩
end Go.Proofs.YtdcjngakmkgbmaaGreat
namespace Go.Proofs.YtdcjngakmkgbmaaGreat
set_option linter.unusedVariables false
open Go.RowKit
set_option maxRecDepth 20000 in
set_option maxHeartbeats 4000000 in
theorem awake_of (w : World) : Calls Tryz.prog 5 #[] w fun e w' => e = .returned (.bool true) ∧ Below w.heap.size w w' := by
  go_enter Tryz.func5, Tryz.ntmps5
  go_wp2_with (go_at_call 4; refine (EncodeM_of _).mono ?_)
  first | (rintro e w1 ⟨⟨g, c, he, h0, h12⟩, hb1⟩) | (rintro e w1 g c he h0 h12 hb1) | (rintro e w1 ⟨g, c, he, h0, h12⟩ hb1)
  subst he
  have B1 : Hid (Below w.heap.size w w1) := hb1
  clear hb1
  go_wp2
  go_ret
  exact ⟨rfl, B1.out⟩
end Go.Proofs.YtdcjngakmkgbmaaGreat
namespace Go.Proofs.YtdcjngakmkgbmaaGreat
end Go.Proofs.YtdcjngakmkgbmaaGreat
namespace Go.Proofs.YtdcjngakmkgbmaaGreat
set_option linter.unusedVariables false
set_option linter.unusedSimpArgs false
open Go.RowKit
theorem wfa64 {n : Int} (h : wfI .i64 n) : I64 n := by have := wf_i64 h; exact ⟨by omega, by omega⟩
theorem wfa8 {n : Int} (h : wfI .u8 n) : U8 n := by have := wf_u8 h; exact ⟨by omega, by omega⟩
theorem wfau {n : Int} (h : wfI .u64 n) : U64 n := by have := wf_u64 h; exact ⟨by omega, by omega⟩
theorem dr_of {c : CeR} (h : ceB c = true) : U8 c.dr := by
  unfold ceB at h
  simp only [Bool.and_eq_true] at h
  have q := h.2
  unfold liB at q
  rw [Bool.and_eq_true] at q
  have q1 := q.1
  unfold inB at q1
  simp only [Bool.and_eq_true, decide_eq_true_eq] at q1
  exact ⟨by omega, by omega⟩
theorem gim_of {m : ImR} (ho : ImOk m) (h : (chk m).2.2 = 0) : GIm m := by
  have z0 : (lk3 m 0).2.2 = 0 := Decidable.byContradiction fun q => q (by rw [chk_0 q] at h; exact h)
  have z1 : (lk3 m 1).2.2 = 0 := Decidable.byContradiction fun q => by rw [chk_1 z0, if_pos q] at h; exact q h
  have zc := lk_none1 z1
  obtain ⟨_, o2, o3, o4, _⟩ := ho
  refine ⟨fun c hc => ?_, fun f hf => ?_, fun j hj => ?_⟩
  · obtain ⟨a1, a2, a3, a4, a5, a6, a7, a8, a9⟩ := o2 c hc
    obtain ⟨i, hi⟩ := List.mem_iff_getElem?.1 hc
    have hl := (List.getElem?_eq_some_iff.1 hi).1
    unfold fstN at zc
    rw [List.find?_range_eq_none] at zc
    have z := zc i hl
    simp only [Bool.not_eq_true', Bool.not_eq_false] at z
    unfold ceAt at z
    rw [hi] at z
    have z' : ceB c = true := by simp at z; exact z.1
    exact ⟨wfa8 a1, wfa64 a2, wfa64 a3, wfa64 a4, wfa8 a5, wfau a6, dr_of z'⟩
  · obtain ⟨a1, a2, a3, a4, a5, a6, a7, a8, _⟩ := o3 f hf
    refine ⟨wfa64 a2, wfa64 a3, wfa64 a4, wfa64 a5, wfa64 a6, fun o ho => ?_, fun l hl => ?_⟩
    · obtain ⟨b1, b2, b3, b4, b5, b6, b7, b8, b9, _⟩ := a7 o ho
      exact ⟨wfa64 b1, wfa64 b2, wfa64 b3, wfa64 b4, wfa64 b5, wfa64 b6, wfa64 b7, wfa8 b8, wfau b9⟩
    · obtain ⟨b1, b2, b3⟩ := a8 l hl
      exact ⟨wfa64 b1, wfa64 b2, wfa64 b3⟩
  · obtain ⟨a1, a2, a3, a4, a5, a6, a7, _⟩ := o4 j hj
    exact ⟨wfa64 a2, wfa64 a3, wfa64 a4, fun o ho => wfa64 (a6 o ho), fun o ho => wfa64 (a7 o ho), wfa64 a5⟩
/-- What Encode makes of an image that may be is taken, as that image. -/
theorem file_ok {m : ImR} (ho : ImOk m) (h : (chk m).2.2 = 0) (hl : (imbN m).length + 4 ≤ 4194304) : decM (fileN m) = m ∧ decE (fileN m) = (0, 0) ∧ (∀ b ∈ fileN m, b < 256) ∧ 8 ≤ (fileN m).length := by
  have b8 : ∀ b ∈ imbN m, b < 256 := Lt.imb m
  obtain ⟨e1, e2⟩ := file_dec (gim_of ho h) b8 hl
  rw [h] at e2
  refine ⟨e1, e2, fun b hb => ?_, ?_⟩
  · unfold fileN at hb
    rcases List.mem_append.1 hb with z | z
    · exact b8 b z
    · unfold cr4N at z
      have := uW_range (crcF (imbN m))
      simp only [List.mem_cons, List.not_mem_nil, or_false] at z
      rcases z with rfl | rfl | rfl | rfl <;> omega
  · rw [fileN_len, imb_r, List.length_append]
    (simp <;> omega)
end Go.Proofs.YtdcjngakmkgbmaaGreat
namespace Go.Proofs.YtdcjngakmkgbmaaGreat
set_option linter.unusedVariables false
set_option linter.unusedSimpArgs false
open Go.RowKit
/-- What Encode answers of an image that may be, and is small enough. -/
theorem EncodeY (m : ImR) (x1 x2 x3 : Option Addr) (p1 p2 p3 : Nat) (w : World) {S : Nat → Prop} (hS : ∀ b, S b → b < w.heap.size) (hq : ImQ S w m x1 x2 x3) (ho : ImOk m) (hc : (chk m).2.2 = 0) (hg : (imbN m).length + 4 ≤ 4194304) :
    Calls Tryz.prog 4 #[.agg #[.string m.nm, .slice x1 m.cs.length p1, .slice x2 m.fs.length p2, .slice x3 m.js.length p3]] w fun e w' => (∃ y d, e = .returned (.tuple #[.slice y (fileN m).length d, .int .i64 0]) ∧ Sb w.heap.size (fileN m) (.slice y (fileN m).length d) w') ∧ Below w.heap.size w w' := by
  refine (EncodeX_2 m x1 x2 x3 p1 p2 p3 w hS hq ho hc (by omega)).mono ?_
  rintro e w' ⟨⟨v, he, hv⟩, hb⟩
  have hs : Sb w.heap.size (fileN m) v w' := hv
  obtain ⟨y, n, d, rfl⟩ := hs.form
  have en := hs.len
  subst en
  exact ⟨⟨y, d, he, hs⟩, hb⟩
/-- A row of bytes of one's own, as a block. -/
theorem Sb.row {B : Nat} {l : List Nat} {x : Option Addr} {n c : Nat} {V : World} (h : Sb B l (.slice x n c) V) (h0 : 0 < l.length) : ∃ g cur, x = some ⟨g, 0, none⟩ ∧ B ≤ g ∧ V.heap[g]? = some (.cells cur 5 (0, 0)) := by
  have hn := h.len
  rcases h.2 with ⟨hv, h1⟩ | ⟨g, cap, cur, hv, hb, hg, hc, hm, hs, ht⟩
  · omega
  · cases hv; exact ⟨g, cur, rfl, hb, hg⟩
end Go.Proofs.YtdcjngakmkgbmaaGreat
