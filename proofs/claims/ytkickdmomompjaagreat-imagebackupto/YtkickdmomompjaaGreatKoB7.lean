/- image: bytes that are taken have one form; one byte that is another one turns their sum; no statement of the seat is proved here. -/
import Derived.Test.YtkickdmomompjaaGreatKoB3
import Derived.Test.YtkickdmomompjaaGreatCkQK
import Derived.Deep.RegionLaw
import Derived.Test.YtkickdmomompjaaGreatAwAK
import Derived.Test.YtkickdmomompjaaGreatKoB1
import Derived.Test.YtkickdmomompjaaGreatKoB2
import Derived.Test.YtkickdmomompjaaGreatKoB5
import Derived.Test.YtkickdmomompjaaGreatKoB6
import Derived.ScopeJumps
import Derived.WalkMore
namespace Go.Proofs.YtkickdmomompjaaGreat
set_option linter.unusedVariables false
open Go.RowKit
theorem nbN_lt (n : Int) : ∀ b ∈ nbN n, b < 256 := fun b hb => by
  unfold nbN nbK at hb
  obtain ⟨i, _, rfl⟩ := List.mem_map.1 hb
  have h1 := Int.emod_nonneg (n / 2 ^ (8 * i)) (show (256 : Int) ≠ 0 by decide)
  have h2 := Int.emod_lt_of_pos (n / 2 ^ (8 * i)) (show (0 : Int) < 256 by decide)
  omega
def Lt (l : List Nat) : Prop := ∀ b ∈ l, b < 256
theorem Lt.app {a b : List Nat} (h : Lt a) (k : Lt b) : Lt (a ++ b) := fun x hx => (List.mem_append.1 hx).elim (h x) (k x)
theorem Lt.sb (s : ByteArray) : Lt (sbN s) := fun b hb => by
  unfold sbN at hb
  obtain ⟨i, _, rfl⟩ := List.mem_map.1 hb
  exact i.toNat_lt
theorem Lt.tb (s : ByteArray) : Lt (tbN s) := (show Lt (nbN s.size) from nbN_lt _).app (Lt.sb s)
theorem Lt.one {x : Nat} (h : x < 256) : Lt [x] := fun b hb => by rw [List.mem_singleton.1 hb]; exact h
theorem Lt.md (x : Int) : Lt [(x % (256 : Int)).toNat] := Lt.one (by have := Int.emod_nonneg x (show (256 : Int) ≠ 0 by decide); have := Int.emod_lt_of_pos x (show (0 : Int) < 256 by decide); omega)
theorem Lt.bb (b : Bool) : Lt [bbN b] := Lt.one (by cases b <;> decide)
theorem Lt.fm {α : Type} {f : α → List Nat} {l : List α} (h : ∀ e ∈ l, Lt (f e)) : Lt (l.flatMap f) := fun b hb => by
  obtain ⟨e, he, hb⟩ := List.mem_flatMap.1 hb
  exact h e he b hb
theorem Lt.ns (l : List Int) : Lt (nsN l) := Lt.fm (fun e _ => nbN_lt e)
theorem Lt.ls {α : Type} {f : α → List Nat} {l : List α} (h : ∀ e, Lt (f e)) : Lt (lsN f l) := (show Lt (nbN l.length) from nbN_lt _).app (Lt.fm (fun e _ => h e))
theorem Lt.vb (k b : Int) (s : ByteArray) : Lt (vbN k b s) := ((Lt.md k).app (nbN_lt _)).app (Lt.tb s)
theorem Lt.cb (c : CeR) : Lt (cbN c) := ((((((Lt.md _).app (Lt.bb _)).app (Lt.ns _)).app (Lt.vb _ _ _)).app (Lt.bb _)).app (Lt.md _)).app (Lt.tb _)
theorem Lt.ob (o : OpR) : Lt (obN o) := (Lt.ns _).app (Lt.vb _ _ _)
theorem Lt.lb (l : LpR) : Lt (lbN l) := Lt.ns _
theorem Lt.flb (f : FlR) : Lt (flbN f) := (((Lt.tb _).app (Lt.ns _)).app (Lt.ls Lt.ob)).app (Lt.ls Lt.lb)
theorem Lt.jb (j : JbR) : Lt (jbN j) := ((((Lt.tb _).app (Lt.ns _)).app (Lt.ls (fun e => nbN_lt e))).app (Lt.ls (fun e => nbN_lt e))).app (nbN_lt _)
theorem Lt.imb (m : ImR) : Lt (imbN m) := ((((Lt.sb _).app (Lt.tb _)).app (Lt.ls Lt.cb)).app (Lt.ls Lt.flb)).app (Lt.ls Lt.jb)
/-- An image that may be is small enough. -/
theorem chk_small {m : ImR} (h : (chk m).2.2 = 0) (ho : ImOk m) : ImS m := by
  obtain ⟨o1, o2, o3, o4, o5, o6, o7⟩ := ho
  have z0 : (lk3 m 0).2.2 = 0 := Decidable.byContradiction fun q => q (by rw [chk_0 q] at h; exact h)
  obtain ⟨_, a1, a2, a3⟩ := hd_0 z0
  have z1 : (lk3 m 1).2.2 = 0 := Decidable.byContradiction fun q => by rw [chk_1 z0, if_pos q] at h; exact q h
  have z2 : (lk3 m 2).2.2 = 0 := Decidable.byContradiction fun q => by rw [chk_1 z0, if_neg (by simp [z1]), if_pos q] at h; exact q h
  have zf := lk_none2 z2
  refine ⟨o1, o2, fun f hf => ⟨o3 f hf, ?_⟩, o4, by omega, by omega, by omega⟩
  obtain ⟨i, hi⟩ := List.mem_iff_getElem?.1 hf
  have hl := (List.getElem?_eq_some_iff.1 hi).1
  unfold fstN at zf
  rw [List.find?_range_eq_none] at zf
  have z := zf i hl
  simp only [Bool.not_eq_true'] at z
  have tk := (totK_succ hi).1
  unfold flAt at z
  rw [hi] at z
  by_cases b1 : nameB f.nm = false
  · simp [b1] at z
  by_cases b2 : coB f m.cs.length = false
  · simp [b1, b2] at z
  by_cases b3 : 16384 < totN m.fs i ∨ 16384 < f.ls.length
  · simp [b1, b2, b3] at z
  omega
theorem ownsRow_mono {V : World} {B C : Nat} {e : TypeId} {v : Value} {n : Nat} {xs : List Value} (h : V.ownsRow B e 1 v n xs) (hB : C ≤ B) : V.ownsRow C e 1 v n xs := by
  refine ⟨h.1, ?_⟩
  rcases h.2 with q | ⟨g, cap, cur, q1, q2, q3⟩
  · exact Or.inl q
  · exact Or.inr ⟨g, cap, cur, q1, Nat.le_trans hB q2, q3⟩
end Go.Proofs.YtkickdmomompjaaGreat
namespace Go.Proofs.YtkickdmomompjaaGreat
set_option linter.unusedVariables false
open Go.RowKit
set_option maxRecDepth 20000 in
set_option maxHeartbeats 4000000 in
theorem writeListCell_nil (B g : Nat) (bs : List Value) (fv : Value) (w : World) (h : Wq B g bs w) (hl : bs.length ≤ 900) :
    Calls Tryz.prog 26 #[.pointer (some ⟨g, 0, none⟩), .slice none 0 0, fv] w fun e w' => e = .returned (.tuple #[]) ∧ (∃ l : List Value, l.length = 8 ∧ Wq B g (bs ++ l) w') ∧ Bq B w w' := by
  have H : Hid (Wq B g bs w) := h
  have HL : Hid (bs.length ≤ 900) := hl
  clear h hl
  go_enter Tryz.func26, Tryz.ntmps26
  go_wp2_with (go_at_call 47; refine (number_of B g bs _ _ H.out (by have := HL.out; omega)).mono ?_)
  first | (rintro e w1 ⟨he, ⟨l, hll, h1⟩, hb1⟩) | (rintro e w1 he ⟨⟨l, hll, h1⟩, hb1⟩) | (rintro e w1 he ⟨l, hll, h1⟩ hb1) | (rintro e w1 he l hll h1 hb1)
  subst he
  have L1 : Hid (l.length = 8) := hll
  have W1 : Hid (Wq B g (bs ++ l) w1) := h1
  have B1 : Hid (Bq B w w1) := hb1
  clear hll h1 hb1
  go_upto_region 2 with fail
  go_loopw [14] (fun i wr => i = .int .i64 0 ∧ wr = w1) (fun _ _ => 0)
  case atStart => exact ⟨rfl, rfl⟩
  case round =>
    obtain ⟨rfl, hw⟩ := hrel
    rw [hw]
    clear hw wr
    go_wp2
    go_end0
    exact ⟨rfl, ⟨l, L1.out, W1.out⟩, B1.out⟩
set_option maxRecDepth 20000 in
set_option maxHeartbeats 4000000 in
theorem writeListFlat_nil (B g : Nat) (bs : List Value) (fv : Value) (w : World) (h : Wq B g bs w) (hl : bs.length ≤ 900) :
    Calls Tryz.prog 28 #[.pointer (some ⟨g, 0, none⟩), .slice none 0 0, fv] w fun e w' => e = .returned (.tuple #[]) ∧ (∃ l : List Value, l.length = 8 ∧ Wq B g (bs ++ l) w') ∧ Bq B w w' := by
  have H : Hid (Wq B g bs w) := h
  have HL : Hid (bs.length ≤ 900) := hl
  clear h hl
  go_enter Tryz.func28, Tryz.ntmps28
  go_wp2_with (go_at_call 47; refine (number_of B g bs _ _ H.out (by have := HL.out; omega)).mono ?_)
  first | (rintro e w1 ⟨he, ⟨l, hll, h1⟩, hb1⟩) | (rintro e w1 he ⟨⟨l, hll, h1⟩, hb1⟩) | (rintro e w1 he ⟨l, hll, h1⟩ hb1) | (rintro e w1 he l hll h1 hb1)
  subst he
  have L1 : Hid (l.length = 8) := hll
  have W1 : Hid (Wq B g (bs ++ l) w1) := h1
  have B1 : Hid (Bq B w w1) := hb1
  clear hll h1 hb1
  go_upto_region 2 with fail
  go_loopw [14] (fun i wr => i = .int .i64 0 ∧ wr = w1) (fun _ _ => 0)
  case atStart => exact ⟨rfl, rfl⟩
  case round =>
    obtain ⟨rfl, hw⟩ := hrel
    rw [hw]
    clear hw wr
    go_wp2
    go_end0
    exact ⟨rfl, ⟨l, L1.out, W1.out⟩, B1.out⟩
set_option maxRecDepth 20000 in
set_option maxHeartbeats 4000000 in
theorem writeListJob_nil (B g : Nat) (bs : List Value) (fv : Value) (w : World) (h : Wq B g bs w) (hl : bs.length ≤ 900) :
    Calls Tryz.prog 30 #[.pointer (some ⟨g, 0, none⟩), .slice none 0 0, fv] w fun e w' => e = .returned (.tuple #[]) ∧ (∃ l : List Value, l.length = 8 ∧ Wq B g (bs ++ l) w') ∧ Bq B w w' := by
  have H : Hid (Wq B g bs w) := h
  have HL : Hid (bs.length ≤ 900) := hl
  clear h hl
  go_enter Tryz.func30, Tryz.ntmps30
  go_wp2_with (go_at_call 47; refine (number_of B g bs _ _ H.out (by have := HL.out; omega)).mono ?_)
  first | (rintro e w1 ⟨he, ⟨l, hll, h1⟩, hb1⟩) | (rintro e w1 he ⟨⟨l, hll, h1⟩, hb1⟩) | (rintro e w1 he ⟨l, hll, h1⟩ hb1) | (rintro e w1 he l hll h1 hb1)
  subst he
  have L1 : Hid (l.length = 8) := hll
  have W1 : Hid (Wq B g (bs ++ l) w1) := h1
  have B1 : Hid (Bq B w w1) := hb1
  clear hll h1 hb1
  go_upto_region 2 with fail
  go_loopw [14] (fun i wr => i = .int .i64 0 ∧ wr = w1) (fun _ _ => 0)
  case atStart => exact ⟨rfl, rfl⟩
  case round =>
    obtain ⟨rfl, hw⟩ := hrel
    rw [hw]
    clear hw wr
    go_wp2
    go_end0
    exact ⟨rfl, ⟨l, L1.out, W1.out⟩, B1.out⟩
/-- The image of a name alone, as a value. -/
def imM : Value := .agg #[.string ⟨#[77]⟩, .slice none 0 0, .slice none 0 0, .slice none 0 0]
set_option maxRecDepth 20000 in
set_option maxHeartbeats 4000000 in
theorem imageM_of (B g : Nat) (w : World) (h : Wq B g [] w) :
    Calls Tryz.prog 10 #[.pointer (some ⟨g, 0, none⟩), .agg #[.string ⟨#[77]⟩, .slice none 0 0, .slice none 0 0, .slice none 0 0]] w fun e w' => e = .returned (.tuple #[]) ∧ (∃ l : List Value, l.length = 37 ∧ l[0]? = some (.int .u8 114) ∧ l[12]? = some (.int .u8 77) ∧ Wq B g l w') ∧ Bq B w w' := by
  obtain ⟨i0, hi, hz0, hz1, hz2⟩ := u8_info
  have HB := h.lt
  obtain ⟨AW, eW⟩ : ∃ AW, AW = w.alloc (.cells #[.string ⟨#[77]⟩, .slice none 0 0, .slice none 0 0, .slice none 0 0] 26 (0, 0)) := ⟨_, rfl⟩
  have AB : Hid (Below w.heap.size w AW) := by rw [eW]; exact (Below.refl _ _).alloc (Nat.le_refl _) _
  have AX : Hid (AW.heap[w.heap.size]? = some (.cells #[.string ⟨#[77]⟩, .slice none 0 0, .slice none 0 0, .slice none 0 0] 26 (0, 0))) := by rw [eW]; exact heap_alloc_last _ _
  have h' := h.below AB.out
  clear h
  obtain ⟨x, n, c, hg, hown⟩ := h'.shape
  have c0 : AW.cell? ⟨g, 0, none⟩ = some (.slice x n c) := by simp [World.cell?, hg]
  have HG : Hid (AW.heap[g]? = some (.cells #[.slice x n c] 40 (0, 0))) := hg
  have HO : Hid (AW.ownsRow B 5 1 (.slice x n c) ([] : List Value).length []) := hown
  have NE : Hid ((Value.slice x n c).ownBlock ≠ some g) := Lib.ownBlock_ne hown hg (by decide)
  have NI : Hid ((Value.slice x n c).ownBlock ≠ some w.heap.size) := Lib.ownBlock_ne hown AX.out (by decide)
  have AS : AW.heap.size = w.heap.size + 1 := by rw [eW]; simp
  clear h' hg hown
  go_enter Tryz.func10, Tryz.ntmps10
  go_upto_region 1 with fail
  rw [← eW]
  clear eW
  go_wp2_with (at_builtin; refine Lib.wpList_append_own_string _ rfl _ _ 27 9 rfl B 5 i0 Tryz.underlying27 Tryz.underlying9 hi hz0 hz1 hz2 _ _ _ rfl HO.out ⟨#[114, 108, 121, 1]⟩ rfl ?c3 ?c4 ?c5 ?_)
  case c3 => decide
  case c4 => decide
  case c5 => omega
  intro v' w2 hown' hgrow hnil
  have O2 : Hid (w2.ownsRow B 5 1 v' (Lib.strCells ⟨#[114, 108, 121, 1]⟩).length (Lib.strCells ⟨#[114, 108, 121, 1]⟩)) := hown'
  have HB2 : g < AW.heap.size := blk_in HG.out
  have G2 : Hid (w2.heap[g]? = some (.cells #[.slice x n c] 40 (0, 0))) := by
    rw [hgrow.block g HB2 (fun e => NE.out e.symm)]
    exact HG.out
  have Q2 : Hid (Bq B AW w2) := (Bq.refl B AW).grown HO.out hgrow (by omega)
  have d0 : w2.cell? ⟨g, 0, none⟩ = some (.slice x n c) := by simp [World.cell?, G2.out]
  have d1 : w2.frozen? ⟨g, 0, none⟩ = false := by simp [World.frozen?, G2.out]
  obtain ⟨y, k, q, rfl⟩ : ∃ y k q, v' = .slice y k q := by
    rcases hown'.2 with ⟨hv, _⟩ | ⟨_, cap, cur, hv, _⟩
    · exact ⟨_, _, _, hv⟩
    · exact ⟨_, _, _, hv⟩
  clear hown' hgrow hnil c0
  obtain ⟨w3, e3⟩ : ∃ V, V = w2.setCell ⟨g, 0, none⟩ (.slice y k q) := ⟨_, rfl⟩
  have H3 : Hid (Wq B g (Lib.strCells ⟨#[114, 108, 121, 1]⟩) w3) := by rw [e3]; exact Wq.put HB.1 G2.out O2.out (U8s.str _)
  have Q3 : Hid (Bq B AW w3) := by rw [e3]; exact Q2.out.set G2.out HB.1 _ _
  have I3 : Hid (w3.heap[w.heap.size]? = some (.cells #[.string ⟨#[77]⟩, .slice none 0 0, .slice none 0 0, .slice none 0 0] 26 (0, 0))) := Q3.out.k _ _ _ _ AX.out (by decide) (by decide)
  go_upto_region 2 with fail
  rw [← e3]
  clear e3 d0 d1 G2 O2 Q2
  have i0 : w3.cell? ⟨w.heap.size, 0, none⟩ = some (.string ⟨#[77]⟩) := by simp [World.cell?, I3.out]
  have i1 : w3.cell? ⟨w.heap.size, 1, none⟩ = some (.slice none 0 0) := by simp [World.cell?, I3.out]
  have i2 : w3.cell? ⟨w.heap.size, 2, none⟩ = some (.slice none 0 0) := by simp [World.cell?, I3.out]
  have i3 : w3.cell? ⟨w.heap.size, 3, none⟩ = some (.slice none 0 0) := by simp [World.cell?, I3.out]
  go_wp2_with (go_at_call 25; refine (text_of B g _ _ _ H3.out (by decide) (by decide)).mono ?_)
  first | (rintro e w4 ⟨he, ⟨l4, hll, h1⟩, hb1⟩) | (rintro e w4 he ⟨⟨l4, hll, h1⟩, hb1⟩) | (rintro e w4 he ⟨l4, hll, h1⟩ hb1) | (rintro e w4 he l4 hll h1 hb1)
  subst he
  have L4 : Hid (l4.length = 8) := hll
  have H4 : Hid (Wq B g (Lib.strCells ⟨#[114, 108, 121, 1]⟩ ++ l4 ++ Lib.strCells ⟨#[77]⟩) w4) := by first | exact h1 | simpa [List.append_assoc] using h1
  have Q4 : Hid (Bq B AW w4) := Q3.out.trans hb1
  have I4 : Hid (w4.heap[w.heap.size]? = some (.cells #[.string ⟨#[77]⟩, .slice none 0 0, .slice none 0 0, .slice none 0 0] 26 (0, 0))) := Q4.out.k _ _ _ _ AX.out (by decide) (by decide)
  clear i0 i1 i2 i3 hll h1 hb1
  have i0 : w4.cell? ⟨w.heap.size, 0, none⟩ = some (.string ⟨#[77]⟩) := by simp [World.cell?, I4.out]
  have i1 : w4.cell? ⟨w.heap.size, 1, none⟩ = some (.slice none 0 0) := by simp [World.cell?, I4.out]
  have i2 : w4.cell? ⟨w.heap.size, 2, none⟩ = some (.slice none 0 0) := by simp [World.cell?, I4.out]
  have i3 : w4.cell? ⟨w.heap.size, 3, none⟩ = some (.slice none 0 0) := by simp [World.cell?, I4.out]
  go_wp2_with (go_at_call 26; refine (writeListCell_nil B g _ _ _ H4.out (by simp [Lib.strCells_length, L4.out]; decide)).mono ?_)
  first | (rintro e w5 ⟨he, ⟨l5, hll, h1⟩, hb1⟩) | (rintro e w5 he ⟨⟨l5, hll, h1⟩, hb1⟩) | (rintro e w5 he ⟨l5, hll, h1⟩ hb1) | (rintro e w5 he l5 hll h1 hb1)
  subst he
  have L5 : Hid (l5.length = 8) := hll
  have H5 : Hid (Wq B g (Lib.strCells ⟨#[114, 108, 121, 1]⟩ ++ l4 ++ Lib.strCells ⟨#[77]⟩ ++ l5) w5) := by first | exact h1 | simpa [List.append_assoc] using h1
  have Q5 : Hid (Bq B AW w5) := Q4.out.trans hb1
  have I5 : Hid (w5.heap[w.heap.size]? = some (.cells #[.string ⟨#[77]⟩, .slice none 0 0, .slice none 0 0, .slice none 0 0] 26 (0, 0))) := Q5.out.k _ _ _ _ AX.out (by decide) (by decide)
  clear i0 i1 i2 i3 hll h1 hb1
  have i0 : w5.cell? ⟨w.heap.size, 0, none⟩ = some (.string ⟨#[77]⟩) := by simp [World.cell?, I5.out]
  have i1 : w5.cell? ⟨w.heap.size, 1, none⟩ = some (.slice none 0 0) := by simp [World.cell?, I5.out]
  have i2 : w5.cell? ⟨w.heap.size, 2, none⟩ = some (.slice none 0 0) := by simp [World.cell?, I5.out]
  have i3 : w5.cell? ⟨w.heap.size, 3, none⟩ = some (.slice none 0 0) := by simp [World.cell?, I5.out]
  go_wp2_with (go_at_call 28; refine (writeListFlat_nil B g _ _ _ H5.out (by simp [Lib.strCells_length, L4.out, L5.out]; decide)).mono ?_)
  first | (rintro e w6 ⟨he, ⟨l6, hll, h1⟩, hb1⟩) | (rintro e w6 he ⟨⟨l6, hll, h1⟩, hb1⟩) | (rintro e w6 he ⟨l6, hll, h1⟩ hb1) | (rintro e w6 he l6 hll h1 hb1)
  subst he
  have L6 : Hid (l6.length = 8) := hll
  have H6 : Hid (Wq B g (Lib.strCells ⟨#[114, 108, 121, 1]⟩ ++ l4 ++ Lib.strCells ⟨#[77]⟩ ++ l5 ++ l6) w6) := by first | exact h1 | simpa [List.append_assoc] using h1
  have Q6 : Hid (Bq B AW w6) := Q5.out.trans hb1
  have I6 : Hid (w6.heap[w.heap.size]? = some (.cells #[.string ⟨#[77]⟩, .slice none 0 0, .slice none 0 0, .slice none 0 0] 26 (0, 0))) := Q6.out.k _ _ _ _ AX.out (by decide) (by decide)
  clear i0 i1 i2 i3 hll h1 hb1
  have i0 : w6.cell? ⟨w.heap.size, 0, none⟩ = some (.string ⟨#[77]⟩) := by simp [World.cell?, I6.out]
  have i1 : w6.cell? ⟨w.heap.size, 1, none⟩ = some (.slice none 0 0) := by simp [World.cell?, I6.out]
  have i2 : w6.cell? ⟨w.heap.size, 2, none⟩ = some (.slice none 0 0) := by simp [World.cell?, I6.out]
  have i3 : w6.cell? ⟨w.heap.size, 3, none⟩ = some (.slice none 0 0) := by simp [World.cell?, I6.out]
  go_wp2_with (go_at_call 30; refine (writeListJob_nil B g _ _ _ H6.out (by simp [Lib.strCells_length, L4.out, L5.out, L6.out]; decide)).mono ?_)
  first | (rintro e w7 ⟨he, ⟨l7, hll, h1⟩, hb1⟩) | (rintro e w7 he ⟨⟨l7, hll, h1⟩, hb1⟩) | (rintro e w7 he ⟨l7, hll, h1⟩ hb1) | (rintro e w7 he l7 hll h1 hb1)
  subst he
  have L7 : Hid (l7.length = 8) := hll
  have H7 : Hid (Wq B g (Lib.strCells ⟨#[114, 108, 121, 1]⟩ ++ l4 ++ Lib.strCells ⟨#[77]⟩ ++ l5 ++ l6 ++ l7) w7) := by first | exact h1 | simpa [List.append_assoc] using h1
  have Q7 : Hid (Bq B AW w7) := Q6.out.trans hb1
  have I7 : Hid (w7.heap[w.heap.size]? = some (.cells #[.string ⟨#[77]⟩, .slice none 0 0, .slice none 0 0, .slice none 0 0] 26 (0, 0))) := Q7.out.k _ _ _ _ AX.out (by decide) (by decide)
  clear i0 i1 i2 i3 hll h1 hb1
  go_wp2
  go_end0
  refine ⟨rfl, ⟨_, ?_, ?_, ?_, H7.out⟩, (Bq.up AB.out (by omega)).trans Q7.out⟩
  · simp [Lib.strCells_length, L4.out, L5.out, L6.out, L7.out]; decide
  · rfl
  · simp only [List.append_assoc]
    rw [List.getElem?_append_right (by decide)]
    show (l4 ++ _)[8]? = _
    rw [List.getElem?_append_right (by rw [L4.out]; decide), L4.out]
    rfl
end Go.Proofs.YtkickdmomompjaaGreat
namespace Go.Proofs.YtkickdmomompjaaGreat
set_option linter.unusedVariables false
open Go.RowKit
def mM : ImR := ⟨⟨#[77]⟩, [], [], []⟩
theorem chk_mM : chk mM = (0, 0, 0) := by
  unfold chk
  rw [if_neg (by decide +kernel), if_neg (by decide), if_neg (by decide), if_neg (by decide)]
  rfl
theorem mM_ok : ImOk mM := by
  unfold ImOk mM shT
  exact ⟨by decide, fun c h => (List.not_mem_nil h).elim, fun c h => (List.not_mem_nil h).elim, fun c h => (List.not_mem_nil h).elim, by decide, by decide, by decide⟩
theorem CheckM_of (w : World) : Calls Tryz.prog 5 #[.agg #[.string ⟨#[77]⟩, .slice none 0 0, .slice none 0 0, .slice none 0 0]] w fun e w' => e = .returned (.tuple #[.int .i64 0, .int .i64 0, .int .i64 0]) ∧ Below w.heap.size w w' := by
  have h := CheckI_of mM none none none 0 0 0 w (S := fun _ => False) (fun b h => h.elim) ⟨RwF.nil _ _ _ _, RwF.nil _ _ _ _, RwF.nil _ _ _ _⟩ mM_ok
  rw [chk_mM] at h
  exact h
theorem Wq.new (V : World) : Wq V.heap.size V.heap.size [] (V.alloc (.cells #[.slice none 0 0] 40 (0, 0))) := by
  unfold Wq U8s
  exact ⟨Nat.le_refl _, fun v h => (List.not_mem_nil h).elim, .slice none 0 0, heap_alloc_last _ _, World.ownsRow_nil _ _ _ _, by simp [Value.ownBlock]⟩
theorem Wq.full {B g : Nat} {bs : List Value} {V : World} (h : Wq B g bs V) (hl : 0 < bs.length) : ∃ k c, V.heap[g]? = some (.cells #[.slice (some ⟨k, 0, none⟩) bs.length c] 40 (0, 0)) ∧ V.ownsRow B 5 1 (.slice (some ⟨k, 0, none⟩) bs.length c) bs.length bs ∧ k < V.heap.size ∧ ∀ (j : Nat) u, bs[j]? = some u → V.cell? ⟨k, j, none⟩ = some u := by
  obtain ⟨_, _, v, h1, h2, _⟩ := h
  rcases h2.2 with ⟨rfl, h0⟩ | ⟨k, cap, cur, rfl, hx⟩
  · omega
  · refine ⟨k, cap, h1, h2, blk_in hx.2.1, fun j u hu => ?_⟩
    have := h2.cells (g := k) rfl j u hu
    rw [Addr.add_mid] at this
    simpa using this
set_option maxRecDepth 20000 in
set_option maxHeartbeats 4000000 in
theorem EncodeM_of (w : World) : Calls Tryz.prog 4 #[.agg #[.string ⟨#[77]⟩, .slice none 0 0, .slice none 0 0, .slice none 0 0]] w fun e w' => (∃ g c, e = .returned (.tuple #[.slice (some ⟨g, 0, none⟩) 41 c, .int .i64 0]) ∧ w'.cell? ⟨g, 0, none⟩ = some (.int .u8 114) ∧ w'.cell? ⟨g, 12, none⟩ = some (.int .u8 77)) ∧ Below w.heap.size w w' := by
  obtain ⟨AW, eW⟩ : ∃ AW, AW = w.alloc (.cells #[.string ⟨#[77]⟩, .slice none 0 0, .slice none 0 0, .slice none 0 0] 26 (0, 0)) := ⟨_, rfl⟩
  have AB : Hid (Below w.heap.size w AW) := by rw [eW]; exact (Below.refl _ _).alloc (Nat.le_refl _) _
  have AX : Hid (AW.heap[w.heap.size]? = some (.cells #[.string ⟨#[77]⟩, .slice none 0 0, .slice none 0 0, .slice none 0 0] 26 (0, 0))) := by rw [eW]; exact heap_alloc_last _ _
  have i0 : AW.cell? ⟨w.heap.size, 0, none⟩ = some (.string ⟨#[77]⟩) := by simp [World.cell?, AX.out]
  have i1 : AW.cell? ⟨w.heap.size, 1, none⟩ = some (.slice none 0 0) := by simp [World.cell?, AX.out]
  have i2 : AW.cell? ⟨w.heap.size, 2, none⟩ = some (.slice none 0 0) := by simp [World.cell?, AX.out]
  have i3 : AW.cell? ⟨w.heap.size, 3, none⟩ = some (.slice none 0 0) := by simp [World.cell?, AX.out]
  go_enter Tryz.func4, Tryz.ntmps4
  go_upto_region 1 with fail
  rw [← eW]
  clear eW
  go_wp2_with (go_at_call 5; refine (CheckM_of _).mono ?_)
  first | (rintro e w1 ⟨he, hb1⟩) | (rintro e w1 he hb1)
  subst he
  have B1 : Hid (Below AW.heap.size AW w1) := hb1
  have X1 : Hid (w1.heap[w.heap.size]? = some (.cells #[.string ⟨#[77]⟩, .slice none 0 0, .slice none 0 0, .slice none 0 0] 26 (0, 0))) := (hb1.block _ (blk_in AX.out)).trans AX.out
  clear hb1 i0 i1 i2 i3
  obtain ⟨g, eg⟩ : ∃ g, g = w1.heap.size := ⟨_, rfl⟩
  obtain ⟨w2, e2⟩ : ∃ w2, w2 = w1.alloc (.cells #[.slice none 0 0] 40 (0, 0)) := ⟨_, rfl⟩
  have H2 : Hid (Wq g g [] w2) := by rw [e2, eg]; exact Wq.new _
  have B2 : Hid (Below g w1 w2) := by rw [e2, eg]; exact (Below.refl _ _).alloc (Nat.le_refl _) _
  have X2 : Hid (w2.heap[w.heap.size]? = some (.cells #[.string ⟨#[77]⟩, .slice none 0 0, .slice none 0 0, .slice none 0 0] 26 (0, 0))) := (B2.out.block _ (by rw [eg]; exact blk_in X1.out)).trans X1.out
  have i0 : w2.cell? ⟨w.heap.size, 0, none⟩ = some (.string ⟨#[77]⟩) := by simp [World.cell?, X2.out]
  have i1 : w2.cell? ⟨w.heap.size, 1, none⟩ = some (.slice none 0 0) := by simp [World.cell?, X2.out]
  have i2 : w2.cell? ⟨w.heap.size, 2, none⟩ = some (.slice none 0 0) := by simp [World.cell?, X2.out]
  have i3 : w2.cell? ⟨w.heap.size, 3, none⟩ = some (.slice none 0 0) := by simp [World.cell?, X2.out]
  go_upto_region 5 with fail
  rw [← e2, ← eg]
  have GB : Hid (Below w.heap.size w w2) := AB.out.trans ((B1.out.trans (B2.out.mono (by rw [eg]; exact B1.out.size))).mono AB.out.size)
  have WG : Hid (w.heap.size ≤ g) := by rw [eg]; exact Nat.le_of_lt (blk_in X1.out)
  clear e2 eg
  go_wp2_with (go_at_call 10; refine (imageM_of g g _ H2.out).mono ?_)
  first | (rintro e w3 ⟨he, ⟨l, l37, l0, l12, h3⟩, q3⟩) | (rintro e w3 he ⟨⟨l, l37, l0, l12, h3⟩, q3⟩) | (rintro e w3 he ⟨l, l37, l0, l12, h3⟩ q3) | (rintro e w3 he l l37 l0 l12 h3 q3)
  subst he
  have GB3 : Hid (Below w.heap.size w w3) := GB.out.trans (q3.b.mono WG.out)
  obtain ⟨k, c, hg, hown, hk, hcells⟩ := h3.full (by omega)
  have hu8 := h3.u8
  rw [l37] at hg hown
  have G3 : Hid (w3.heap[g]? = some (.cells #[.slice (some ⟨k, 0, none⟩) 37 c] 40 (0, 0))) := hg
  have O3 : Hid (w3.ownsRow g 5 1 (.slice (some ⟨k, 0, none⟩) 37 c) 37 l) := hown
  have SC : Hid (∀ j : Nat, j < 37 → ∃ a b, (some ⟨k, 0, none⟩ : Option Addr) = some a ∧ a.block < w3.heap.size ∧ w3.cell? (a.add j) = some (.int .u8 b)) := fun j hj => by
    obtain ⟨b, hb⟩ := hu8 _ (List.getElem_mem (l := l) (n := j) (by omega))
    refine ⟨_, b, rfl, hk, ?_⟩
    rw [Addr.add_mid, ← hb, Nat.zero_add]
    exact hcells j _ (List.getElem?_eq_getElem (by omega))
  have L37 : Hid (l.length = 37) := l37
  have L0 : Hid (l[0]? = some (.int .u8 114)) := l0
  have L12 : Hid (l[12]? = some (.int .u8 77)) := l12
  clear h3 q3 hg hown hu8 hcells l37 l0 l12 i0 i1 i2 i3
  have d0 : w3.cell? ⟨g, 0, none⟩ = some (.slice (some ⟨k, 0, none⟩) 37 c) := by simp [World.cell?, G3.out]
  go_wp2_with (go_at_call 11; refine (sumOf_of _ 37 c _ (by decide) SC.out).mono ?_)
  first | (rintro e w4 ⟨⟨b0, b1, b2, b3, he⟩, hb4⟩) | (rintro e w4 b0 b1 b2 b3 he hb4) | (rintro e w4 ⟨b0, b1, b2, b3, he⟩ hb4)
  subst he
  have B4 : Hid (Below w3.heap.size w3 w4) := hb4
  clear hb4 d0
  obtain ⟨w5, e5⟩ : ∃ w5, w5 = w4.alloc (.cells #[.int .u8 b0, .int .u8 b1, .int .u8 b2, .int .u8 b3] 42 (0, 0)) := ⟨_, rfl⟩
  have X5 : Hid (w5.heap[w4.heap.size]? = some (.cells #[.int .u8 b0, .int .u8 b1, .int .u8 b2, .int .u8 b3] 42 (0, 0))) := by rw [e5]; exact heap_alloc_last _ _
  have B5 : Hid (Below w3.heap.size w3 w5) := by rw [e5]; exact B4.out.trans (((Below.refl _ _).alloc (Nat.le_refl _) _).mono B4.out.size)
  go_upto_region 9 with fail
  rw [← e5]
  clear e5
  have d0 : w5.cell? ⟨g, 0, none⟩ = some (.slice (some ⟨k, 0, none⟩) 37 c) := (B5.out.cell (p := ⟨g, 0, none⟩) (blk_in G3.out)).trans (by simp [World.cell?, G3.out])
  have O5 : Hid (w5.drew.ownsRow g 5 1 (.slice (some ⟨k, 0, none⟩) 37 c) 37 l) := O3.out.kept (row := none) ⟨B5.out.os, B5.out.tape, B5.out.output, B5.out.size, fun j hj _ => B5.out.block j hj⟩ (by simp [Value.ownBlock])
  have S5 : Hid (∀ (j : Nat) u, ([.int .u8 b0, .int .u8 b1, .int .u8 b2, .int .u8 b3] : List Value)[j]? = some u → w5.drew.cell? ((⟨w4.heap.size, 0, none⟩ : Addr).add j) = some u) := fun j u hu => by
    rw [Addr.add_mid, Nat.zero_add]
    show w5.cell? _ = _
    rw [World.cell?, X5.out]
    simpa using hu
  have GK : Hid (w.heap.size ≤ g ∧ g ≤ w5.heap.size) := ⟨WG.out, by have := blk_in G3.out; have := B5.out.size; omega⟩
  have GB5 : Hid (Below w.heap.size w w5.drew) := (GB3.out.trans (B5.out.mono GB3.out.size)).drew
  obtain ⟨i, hi, hz, hs, hy⟩ := u8_info
  go_region_law ((rw [if_pos (by rfl)]; refine wp_append_own _ _ _ 27 rfl g 5 i _ 1 1 Tryz.underlying27 hi hz hs hy rfl (by decide) _ 37 l rfl O5.out ⟨w4.heap.size, 0, none⟩ 4 4 [.int .u8 b0, .int .u8 b1, .int .u8 b2, .int .u8 b3] rfl rfl S5.out (by intro u hu; simp at hu; rcases hu with rfl | rfl | rfl | rfl <;> rfl) (by decide) (by decide) GK.out.2 ?_; intro v' w' k1 k2 k3))
  have k2' : w5.drew.grownBy w' (Value.slice (some ⟨k, 0, none⟩) 37 c).ownBlock := k2
  have B6 : Hid (Below w.heap.size w w') := GB5.out.grown k2' (by have := GK.out; show _ ≤ w5.heap.size; omega) (fun j hj => by have := (O5.out.lt j hj).1; have := GK.out.1; omega)
  obtain ⟨r, cap, hv, hr⟩ : ∃ r cap, v' = .slice (some ⟨r, 0, none⟩) 41 cap ∧ ∀ (j : Nat) u, (l ++ [.int .u8 b0, .int .u8 b1, .int .u8 b2, .int .u8 b3])[j]? = some u → w'.cell? ⟨r, j, none⟩ = some u := by
    rcases k1.2 with ⟨_, h0⟩ | ⟨r, cap, cur, hv, _⟩
    · omega
    · refine ⟨r, cap, hv, fun j u hu => ?_⟩
      have := k1.cells (g := r) (by rw [hv]; rfl) j u hu
      rw [Addr.add_mid] at this
      simpa using this
  subst hv
  have C0 : Hid (w'.cell? ⟨r, 0, none⟩ = some (.int .u8 114)) := hr 0 _ (by rw [List.getElem?_append_left (by rw [L37.out]; decide)]; exact L0.out)
  have C12 : Hid (w'.cell? ⟨r, 12, none⟩ = some (.int .u8 77)) := hr 12 _ (by rw [List.getElem?_append_left (by rw [L37.out]; decide)]; exact L12.out)
  clear k1 k2 k3 k2' hr hi hz hs hy d0
  go_wp2
  exact bodyPost_ret (v := .tuple #[.slice (some ⟨r, 0, none⟩) 41 cap, .int .i64 0]) (by simp [results, Tryz.results4, go_sem]) rfl ⟨⟨r, cap, rfl, C0.out, C12.out⟩, B6.out⟩
end Go.Proofs.YtkickdmomompjaaGreat
namespace Go.Proofs.YtkickdmomompjaaGreat
set_option linter.unusedVariables false
open Go.RowKit
/-- What Encode answers: bytes of one's own, and an error. -/
def EnR (B : Nat) (m : ImR) (e : Ending) (V : World) : Prop :=
  ∃ v, (e = .returned (.tuple #[v, .int .i64 (if (chk m).2.2 ≠ 0 then (chk m).2.2 else if 4194304 < (imbN m).length + 4 then 4 else 0)])) ∧ V.ownsRow B 5 1 v (if (chk m).2.2 ≠ 0 then [] else if 4194304 < (imbN m).length + 4 then [] else imbN m ++ cr4N (crcF (imbN m))).length (bvL (if (chk m).2.2 ≠ 0 then [] else if 4194304 < (imbN m).length + 4 then [] else imbN m ++ cr4N (crcF (imbN m))))
set_option maxRecDepth 20000 in
set_option maxHeartbeats 8000000 in
theorem EncodeX_0 (m : ImR) (x1 x2 x3 : Option Addr) (p1 p2 p3 : Nat) (w : World) {S : Nat → Prop} (hS : ∀ b, S b → b < w.heap.size) (hq : ImQ S w m x1 x2 x3) (ho : ImOk m) (hc : (chk m).2.2 ≠ 0) :
    Calls Tryz.prog 4 #[.agg #[.string m.nm, .slice x1 m.cs.length p1, .slice x2 m.fs.length p2, .slice x3 m.js.length p3]] w fun e w' => e = .returned (.tuple #[.slice none 0 0, .int .i64 (chk m).2.2]) ∧ Below w.heap.size w w' := by
  have HC : Hid ((chk m).2.2 ≠ 0) := hc
  clear hc
  have HS : Hid (∀ b, S b → b < w.heap.size) := hS
  have HQ : Hid (ImQ S w m x1 x2 x3) := hq
  have OK : Hid (ImOk m) := ho
  clear hS hq ho
  obtain ⟨AW, eW⟩ : ∃ AW, AW = w.alloc (.cells #[.string m.nm, .slice x1 m.cs.length p1, .slice x2 m.fs.length p2, .slice x3 m.js.length p3] 26 (0, 0)) := ⟨_, rfl⟩
  have AB : Hid (Below w.heap.size w AW) := by rw [eW]; exact (Below.refl _ _).alloc (Nat.le_refl _) _
  have AX : Hid (AW.heap[w.heap.size]? = some (.cells #[.string m.nm, .slice x1 m.cs.length p1, .slice x2 m.fs.length p2, .slice x3 m.js.length p3] 26 (0, 0))) := by rw [eW]; exact heap_alloc_last _ _
  have SV : Hid (∀ V, Below w.heap.size w V → ∀ b, S b → b < V.heap.size) := fun V h b hb => Nat.lt_of_lt_of_le (HS.out b hb) h.size
  have QV : Hid (∀ V, Below w.heap.size w V → ImQ S V m x1 x2 x3) := fun V h => HQ.out.fr (fun q hqq => h.cell (HS.out _ hqq))
  have i0 : AW.cell? ⟨w.heap.size, 0, none⟩ = some (.string m.nm) := by simp [World.cell?, AX.out]
  have i1 : AW.cell? ⟨w.heap.size, 1, none⟩ = some (.slice x1 m.cs.length p1) := by simp [World.cell?, AX.out]
  have i2 : AW.cell? ⟨w.heap.size, 2, none⟩ = some (.slice x2 m.fs.length p2) := by simp [World.cell?, AX.out]
  have i3 : AW.cell? ⟨w.heap.size, 3, none⟩ = some (.slice x3 m.js.length p3) := by simp [World.cell?, AX.out]
  have CK : Hid (Calls Tryz.prog 5 #[.agg #[.string m.nm, .slice x1 m.cs.length p1, .slice x2 m.fs.length p2, .slice x3 m.js.length p3]] AW fun e w' => e = .returned (.tuple #[.int .i64 (chk m).1, .int .i64 (chk m).2.1, .int .i64 (chk m).2.2]) ∧ Below AW.heap.size AW w') := CheckI_of m x1 x2 x3 p1 p2 p3 _ (SV.out _ AB.out) (QV.out _ AB.out) OK.out
  generalize (chk m).1 = c1 at *
  generalize (chk m).2.1 = c2 at *
  generalize (chk m).2.2 = c3 at *
  go_enter Tryz.func4, Tryz.ntmps4
  go_upto_region 1 with fail
  rw [← eW]
  clear eW
  go_wp2_with (go_at_call 5; refine (CK.out).mono ?_)
  first | (rintro e w1 ⟨he, hb1⟩; have he' := he) | (rintro e w1 he hb1)
  subst he
  have B1 : Hid (Below AW.heap.size AW w1) := hb1
  have X1 : Hid (w1.heap[w.heap.size]? = some (.cells #[.string m.nm, .slice x1 m.cs.length p1, .slice x2 m.fs.length p2, .slice x3 m.js.length p3] 26 (0, 0))) := (hb1.block _ (blk_in AX.out)).trans AX.out
  have GB1 : Hid (Below w.heap.size w w1) := AB.out.trans (hb1.mono AB.out.size)
  clear hb1 i0 i1 i2 i3
  go_upto_region 2 with fail
  have n1 : (c3 == 0) = false := by simp [HC.out]
  have n2 : (c3 != 0) = true := by simp [HC.out]
  clear CK HC
  go_wp2
  exact bodyPost_ret (v := .tuple #[.slice none 0 0, .int .i64 c3]) (by simp [results, Tryz.results4, go_sem]) rfl ⟨rfl, GB1.out⟩
set_option maxRecDepth 20000 in
set_option maxHeartbeats 8000000 in
theorem EncodeX_1 (m : ImR) (x1 x2 x3 : Option Addr) (p1 p2 p3 : Nat) (w : World) {S : Nat → Prop} (hS : ∀ b, S b → b < w.heap.size) (hq : ImQ S w m x1 x2 x3) (ho : ImOk m) (hc : (chk m).2.2 = 0) (hg : 4194304 < (imbN m).length + 4) :
    Calls Tryz.prog 4 #[.agg #[.string m.nm, .slice x1 m.cs.length p1, .slice x2 m.fs.length p2, .slice x3 m.js.length p3]] w fun e w' => e = .returned (.tuple #[.slice none 0 0, .int .i64 4]) ∧ Below w.heap.size w w' := by
  have SS : Hid (ImS m) := chk_small hc ho
  have HC : Hid ((chk m).2.2 = 0) := hc
  have HG : Hid (4194304 < (imbN m).length + 4) := hg
  clear hc hg
  have HS : Hid (∀ b, S b → b < w.heap.size) := hS
  have HQ : Hid (ImQ S w m x1 x2 x3) := hq
  have OK : Hid (ImOk m) := ho
  clear hS hq ho
  obtain ⟨AW, eW⟩ : ∃ AW, AW = w.alloc (.cells #[.string m.nm, .slice x1 m.cs.length p1, .slice x2 m.fs.length p2, .slice x3 m.js.length p3] 26 (0, 0)) := ⟨_, rfl⟩
  have AB : Hid (Below w.heap.size w AW) := by rw [eW]; exact (Below.refl _ _).alloc (Nat.le_refl _) _
  have AX : Hid (AW.heap[w.heap.size]? = some (.cells #[.string m.nm, .slice x1 m.cs.length p1, .slice x2 m.fs.length p2, .slice x3 m.js.length p3] 26 (0, 0))) := by rw [eW]; exact heap_alloc_last _ _
  have SV : Hid (∀ V, Below w.heap.size w V → ∀ b, S b → b < V.heap.size) := fun V h b hb => Nat.lt_of_lt_of_le (HS.out b hb) h.size
  have QV : Hid (∀ V, Below w.heap.size w V → ImQ S V m x1 x2 x3) := fun V h => HQ.out.fr (fun q hqq => h.cell (HS.out _ hqq))
  have i0 : AW.cell? ⟨w.heap.size, 0, none⟩ = some (.string m.nm) := by simp [World.cell?, AX.out]
  have i1 : AW.cell? ⟨w.heap.size, 1, none⟩ = some (.slice x1 m.cs.length p1) := by simp [World.cell?, AX.out]
  have i2 : AW.cell? ⟨w.heap.size, 2, none⟩ = some (.slice x2 m.fs.length p2) := by simp [World.cell?, AX.out]
  have i3 : AW.cell? ⟨w.heap.size, 3, none⟩ = some (.slice x3 m.js.length p3) := by simp [World.cell?, AX.out]
  have CK : Hid (Calls Tryz.prog 5 #[.agg #[.string m.nm, .slice x1 m.cs.length p1, .slice x2 m.fs.length p2, .slice x3 m.js.length p3]] AW fun e w' => e = .returned (.tuple #[.int .i64 (chk m).1, .int .i64 (chk m).2.1, .int .i64 (chk m).2.2]) ∧ Below AW.heap.size AW w') := CheckI_of m x1 x2 x3 p1 p2 p3 _ (SV.out _ AB.out) (QV.out _ AB.out) OK.out
  have IMX : Hid (∀ V, Below w.heap.size w V → ∀ g, w.heap.size ≤ g → Wb g g [] V → Calls Tryz.prog 10 #[.pointer (some ⟨g, 0, none⟩), .agg #[.string m.nm, .slice x1 m.cs.length p1, .slice x2 m.fs.length p2, .slice x3 m.js.length p3]] V fun e w' => e = .returned (.tuple #[]) ∧ Wb g g (imbN m) w' ∧ Bq g V w') := fun V hV g hg hW => imageX g g m x1 x2 x3 p1 p2 p3 V hW (fun b hb => Nat.lt_of_lt_of_le (HS.out b hb) hg) (QV.out V hV) SS.out
  have LT4 : Hid (4 ≤ (imbN m).length) := by show _ ≤ _; unfold imbN; rw [List.length_append, List.length_append, List.length_append, List.length_append, sbN_len]; show 4 ≤ 4 + _ + _ + _ + _; omega
  have LE : Hid ((imbN m).length ≤ 17592186044416) := by
    obtain ⟨o1, o2, o3, o4, o5, o6, o7⟩ := SS.out
    have z1 := lsC_le o2
    have z2 := lsF_le o3
    have z3 := lsJ_le o4
    have z0 : m.nm.size ≤ 4194304 := o1
    show _ ≤ _
    unfold imbN
    rw [List.length_append, List.length_append, List.length_append, List.length_append, sbN_len, tbN_len]
    show 4 + _ + _ + _ + _ ≤ _
    omega
  have LTB : Hid (Lt (imbN m)) := Lt.imb m
  generalize imbN m = l at *
  generalize (chk m).1 = c1 at *
  generalize (chk m).2.1 = c2 at *
  generalize (chk m).2.2 = c3 at *
  go_enter Tryz.func4, Tryz.ntmps4
  go_upto_region 1 with fail
  rw [← eW]
  clear eW
  go_wp2_with (go_at_call 5; refine (CK.out).mono ?_)
  first | (rintro e w1 ⟨he, hb1⟩; have he' := he) | (rintro e w1 he hb1)
  subst he
  have B1 : Hid (Below AW.heap.size AW w1) := hb1
  have X1 : Hid (w1.heap[w.heap.size]? = some (.cells #[.string m.nm, .slice x1 m.cs.length p1, .slice x2 m.fs.length p2, .slice x3 m.js.length p3] 26 (0, 0))) := (hb1.block _ (blk_in AX.out)).trans AX.out
  have GB1 : Hid (Below w.heap.size w w1) := AB.out.trans (hb1.mono AB.out.size)
  clear hb1 i0 i1 i2 i3
  go_upto_region 2 with fail
  have e3 : c3 = 0 := HC.out
  subst e3
  clear HC CK
  go_upto_region 4 with fail
  obtain ⟨g, eg⟩ : ∃ g, g = w1.heap.size := ⟨_, rfl⟩
  obtain ⟨w2, e2⟩ : ∃ w2, w2 = w1.alloc (.cells #[.slice none 0 0] 40 (0, 0)) := ⟨_, rfl⟩
  have H2 : Hid (Wb g g [] w2) := by rw [e2, eg]; exact Wq.new _
  have B2 : Hid (Below g w1 w2) := by rw [e2, eg]; exact (Below.refl _ _).alloc (Nat.le_refl _) _
  have X2 : Hid (w2.heap[w.heap.size]? = some (.cells #[.string m.nm, .slice x1 m.cs.length p1, .slice x2 m.fs.length p2, .slice x3 m.js.length p3] 26 (0, 0))) := (B2.out.block _ (by rw [eg]; exact blk_in X1.out)).trans X1.out
  have i0 : w2.cell? ⟨w.heap.size, 0, none⟩ = some (.string m.nm) := by simp [World.cell?, X2.out]
  have i1 : w2.cell? ⟨w.heap.size, 1, none⟩ = some (.slice x1 m.cs.length p1) := by simp [World.cell?, X2.out]
  have i2 : w2.cell? ⟨w.heap.size, 2, none⟩ = some (.slice x2 m.fs.length p2) := by simp [World.cell?, X2.out]
  have i3 : w2.cell? ⟨w.heap.size, 3, none⟩ = some (.slice x3 m.js.length p3) := by simp [World.cell?, X2.out]
  go_upto_region 5 with fail
  rw [← e2, ← eg]
  have GB : Hid (Below w.heap.size w w2) := GB1.out.trans (B2.out.mono (by rw [eg]; exact GB1.out.size))
  have WG : Hid (w.heap.size ≤ g) := by rw [eg]; exact GB1.out.size
  clear e2 eg
  go_wp2_with (go_at_call 10; refine (IMX.out _ GB.out g WG.out H2.out).mono ?_)
  first | (rintro e w3 ⟨he, h3, q3⟩; have he' := he) | (rintro e w3 he h3 q3)
  subst he
  have GB3 : Hid (Below w.heap.size w w3) := GB.out.trans (q3.b.mono WG.out)
  have lt4 := LT4.out
  have hle := LE.out
  obtain ⟨k, c, hg, hown, hk, hcells⟩ := h3.full (by rw [bvL_len]; omega)
  rw [bvL_len] at hg hown
  have G3 : Hid (w3.heap[g]? = some (.cells #[.slice (some ⟨k, 0, none⟩) l.length c] 40 (0, 0))) := hg
  have O3 : Hid (w3.ownsRow g 5 1 (.slice (some ⟨k, 0, none⟩) l.length c) l.length (bvL l)) := hown
  have SC : Hid (∀ (j : Nat) b, l[j]? = some b → ∃ a, (some ⟨k, 0, none⟩ : Option Addr) = some a ∧ a.block < w3.heap.size ∧ w3.cell? (a.add j) = some (.int .u8 b)) := fun j b hj => by
    refine ⟨_, rfl, hk, ?_⟩
    rw [Addr.add_mid, Nat.zero_add]
    exact hcells j _ (by unfold bvL; rw [List.getElem?_map, hj]; rfl)
  have d0 : w3.cell? ⟨g, 0, none⟩ = some (.slice (some ⟨k, 0, none⟩) l.length c) := by simp [World.cell?, G3.out]
  have ew : wrap64 ((l.length : Int) + 4) = (l.length : Int) + 4 := by unfold wrap64; omega
  clear h3 q3 hg hown hcells i0 i1 i2 i3 hle lt4
  have b1 : (4194304 : Int) < (l.length : Int) + 4 := by have := HG.out; omega
  clear HG
  go_wp2
  exact bodyPost_ret (v := .tuple #[.slice none 0 0, .int .i64 4]) (by simp [results, Tryz.results4, go_sem]) rfl ⟨rfl, GB3.out⟩
set_option maxRecDepth 20000 in
set_option maxHeartbeats 8000000 in
theorem EncodeX_2 (m : ImR) (x1 x2 x3 : Option Addr) (p1 p2 p3 : Nat) (w : World) {S : Nat → Prop} (hS : ∀ b, S b → b < w.heap.size) (hq : ImQ S w m x1 x2 x3) (ho : ImOk m) (hc : (chk m).2.2 = 0) (hg : ¬ 4194304 < (imbN m).length + 4) :
    Calls Tryz.prog 4 #[.agg #[.string m.nm, .slice x1 m.cs.length p1, .slice x2 m.fs.length p2, .slice x3 m.js.length p3]] w fun e w' => (∃ v, e = .returned (.tuple #[v, .int .i64 0]) ∧ w'.ownsRow w.heap.size 5 1 v (imbN m ++ cr4N (crcF (imbN m))).length (bvL (imbN m ++ cr4N (crcF (imbN m))))) ∧ Below w.heap.size w w' := by
  have SS : Hid (ImS m) := chk_small hc ho
  have HC : Hid ((chk m).2.2 = 0) := hc
  have HG : Hid (¬ 4194304 < (imbN m).length + 4) := hg
  clear hc hg
  have HS : Hid (∀ b, S b → b < w.heap.size) := hS
  have HQ : Hid (ImQ S w m x1 x2 x3) := hq
  have OK : Hid (ImOk m) := ho
  clear hS hq ho
  obtain ⟨AW, eW⟩ : ∃ AW, AW = w.alloc (.cells #[.string m.nm, .slice x1 m.cs.length p1, .slice x2 m.fs.length p2, .slice x3 m.js.length p3] 26 (0, 0)) := ⟨_, rfl⟩
  have AB : Hid (Below w.heap.size w AW) := by rw [eW]; exact (Below.refl _ _).alloc (Nat.le_refl _) _
  have AX : Hid (AW.heap[w.heap.size]? = some (.cells #[.string m.nm, .slice x1 m.cs.length p1, .slice x2 m.fs.length p2, .slice x3 m.js.length p3] 26 (0, 0))) := by rw [eW]; exact heap_alloc_last _ _
  have SV : Hid (∀ V, Below w.heap.size w V → ∀ b, S b → b < V.heap.size) := fun V h b hb => Nat.lt_of_lt_of_le (HS.out b hb) h.size
  have QV : Hid (∀ V, Below w.heap.size w V → ImQ S V m x1 x2 x3) := fun V h => HQ.out.fr (fun q hqq => h.cell (HS.out _ hqq))
  have i0 : AW.cell? ⟨w.heap.size, 0, none⟩ = some (.string m.nm) := by simp [World.cell?, AX.out]
  have i1 : AW.cell? ⟨w.heap.size, 1, none⟩ = some (.slice x1 m.cs.length p1) := by simp [World.cell?, AX.out]
  have i2 : AW.cell? ⟨w.heap.size, 2, none⟩ = some (.slice x2 m.fs.length p2) := by simp [World.cell?, AX.out]
  have i3 : AW.cell? ⟨w.heap.size, 3, none⟩ = some (.slice x3 m.js.length p3) := by simp [World.cell?, AX.out]
  have CK : Hid (Calls Tryz.prog 5 #[.agg #[.string m.nm, .slice x1 m.cs.length p1, .slice x2 m.fs.length p2, .slice x3 m.js.length p3]] AW fun e w' => e = .returned (.tuple #[.int .i64 (chk m).1, .int .i64 (chk m).2.1, .int .i64 (chk m).2.2]) ∧ Below AW.heap.size AW w') := CheckI_of m x1 x2 x3 p1 p2 p3 _ (SV.out _ AB.out) (QV.out _ AB.out) OK.out
  have IMX : Hid (∀ V, Below w.heap.size w V → ∀ g, w.heap.size ≤ g → Wb g g [] V → Calls Tryz.prog 10 #[.pointer (some ⟨g, 0, none⟩), .agg #[.string m.nm, .slice x1 m.cs.length p1, .slice x2 m.fs.length p2, .slice x3 m.js.length p3]] V fun e w' => e = .returned (.tuple #[]) ∧ Wb g g (imbN m) w' ∧ Bq g V w') := fun V hV g hg hW => imageX g g m x1 x2 x3 p1 p2 p3 V hW (fun b hb => Nat.lt_of_lt_of_le (HS.out b hb) hg) (QV.out V hV) SS.out
  have LT4 : Hid (4 ≤ (imbN m).length) := by show _ ≤ _; unfold imbN; rw [List.length_append, List.length_append, List.length_append, List.length_append, sbN_len]; show 4 ≤ 4 + _ + _ + _ + _; omega
  have LE : Hid ((imbN m).length ≤ 17592186044416) := by
    obtain ⟨o1, o2, o3, o4, o5, o6, o7⟩ := SS.out
    have z1 := lsC_le o2
    have z2 := lsF_le o3
    have z3 := lsJ_le o4
    have z0 : m.nm.size ≤ 4194304 := o1
    show _ ≤ _
    unfold imbN
    rw [List.length_append, List.length_append, List.length_append, List.length_append, sbN_len, tbN_len]
    show 4 + _ + _ + _ + _ ≤ _
    omega
  have LTB : Hid (Lt (imbN m)) := Lt.imb m
  generalize imbN m = l at *
  generalize (chk m).1 = c1 at *
  generalize (chk m).2.1 = c2 at *
  generalize (chk m).2.2 = c3 at *
  go_enter Tryz.func4, Tryz.ntmps4
  go_upto_region 1 with fail
  rw [← eW]
  clear eW
  go_wp2_with (go_at_call 5; refine (CK.out).mono ?_)
  first | (rintro e w1 ⟨he, hb1⟩; have he' := he) | (rintro e w1 he hb1)
  subst he
  have B1 : Hid (Below AW.heap.size AW w1) := hb1
  have X1 : Hid (w1.heap[w.heap.size]? = some (.cells #[.string m.nm, .slice x1 m.cs.length p1, .slice x2 m.fs.length p2, .slice x3 m.js.length p3] 26 (0, 0))) := (hb1.block _ (blk_in AX.out)).trans AX.out
  have GB1 : Hid (Below w.heap.size w w1) := AB.out.trans (hb1.mono AB.out.size)
  clear hb1 i0 i1 i2 i3
  go_upto_region 2 with fail
  have e3 : c3 = 0 := HC.out
  subst e3
  clear HC CK
  go_upto_region 4 with fail
  obtain ⟨g, eg⟩ : ∃ g, g = w1.heap.size := ⟨_, rfl⟩
  obtain ⟨w2, e2⟩ : ∃ w2, w2 = w1.alloc (.cells #[.slice none 0 0] 40 (0, 0)) := ⟨_, rfl⟩
  have H2 : Hid (Wb g g [] w2) := by rw [e2, eg]; exact Wq.new _
  have B2 : Hid (Below g w1 w2) := by rw [e2, eg]; exact (Below.refl _ _).alloc (Nat.le_refl _) _
  have X2 : Hid (w2.heap[w.heap.size]? = some (.cells #[.string m.nm, .slice x1 m.cs.length p1, .slice x2 m.fs.length p2, .slice x3 m.js.length p3] 26 (0, 0))) := (B2.out.block _ (by rw [eg]; exact blk_in X1.out)).trans X1.out
  have i0 : w2.cell? ⟨w.heap.size, 0, none⟩ = some (.string m.nm) := by simp [World.cell?, X2.out]
  have i1 : w2.cell? ⟨w.heap.size, 1, none⟩ = some (.slice x1 m.cs.length p1) := by simp [World.cell?, X2.out]
  have i2 : w2.cell? ⟨w.heap.size, 2, none⟩ = some (.slice x2 m.fs.length p2) := by simp [World.cell?, X2.out]
  have i3 : w2.cell? ⟨w.heap.size, 3, none⟩ = some (.slice x3 m.js.length p3) := by simp [World.cell?, X2.out]
  go_upto_region 5 with fail
  rw [← e2, ← eg]
  have GB : Hid (Below w.heap.size w w2) := GB1.out.trans (B2.out.mono (by rw [eg]; exact GB1.out.size))
  have WG : Hid (w.heap.size ≤ g) := by rw [eg]; exact GB1.out.size
  clear e2 eg
  go_wp2_with (go_at_call 10; refine (IMX.out _ GB.out g WG.out H2.out).mono ?_)
  first | (rintro e w3 ⟨he, h3, q3⟩; have he' := he) | (rintro e w3 he h3 q3)
  subst he
  have GB3 : Hid (Below w.heap.size w w3) := GB.out.trans (q3.b.mono WG.out)
  have lt4 := LT4.out
  have hle := LE.out
  obtain ⟨k, c, hg, hown, hk, hcells⟩ := h3.full (by rw [bvL_len]; omega)
  rw [bvL_len] at hg hown
  obtain ⟨n, hn⟩ : ∃ n, n = l.length := ⟨_, rfl⟩
  have NL : Hid (n = l.length) := hn
  rw [← hn] at hg hown
  clear hn
  have G3 : Hid (w3.heap[g]? = some (.cells #[.slice (some ⟨k, 0, none⟩) n c] 40 (0, 0))) := hg
  have O3 : Hid (w3.ownsRow g 5 1 (.slice (some ⟨k, 0, none⟩) n c) n (bvL l)) := hown
  have SC : Hid (∀ (j : Nat) b, l[j]? = some b → ∃ a, (some ⟨k, 0, none⟩ : Option Addr) = some a ∧ a.block < w3.heap.size ∧ w3.cell? (a.add j) = some (.int .u8 b)) := fun j b hj => by
    refine ⟨_, rfl, hk, ?_⟩
    rw [Addr.add_mid, Nat.zero_add]
    exact hcells j _ (by unfold bvL; rw [List.getElem?_map, hj]; rfl)
  have d0 : w3.cell? ⟨g, 0, none⟩ = some (.slice (some ⟨k, 0, none⟩) n c) := by simp [World.cell?, G3.out]
  have NS : Hid (n ≤ 4194304) := by show _ ≤ _; have := NL.out; have := HG.out; omega
  obtain ⟨N4, ew, b1⟩ : ∃ N4 : Int, wrap64 ((n : Int) + 4) = N4 ∧ ¬ (4194304 : Int) < N4 := ⟨_, rfl, by have := NL.out; have := HG.out; unfold wrap64; omega⟩
  clear h3 q3 hg hown hcells i0 i1 i2 i3 hle lt4
  clear HG
  go_upto_region 8 with fail
  go_wp2_with (go_at_call 11; refine (sumOfX_of _ n c l _ (by have := NS.out; omega) NL.out.symm LTB.out SC.out).mono ?_)
  first | (rintro e w4 ⟨he, hb4⟩; have he' := he) | (rintro e w4 he hb4)
  subst he
  have B4 : Hid (Below w3.heap.size w3 w4) := hb4
  have CR : Hid (bvL (cr4N (crcF l)) = _) := cr4_bv (crcF l)
  unfold cr4
  generalize uW (crcF l) % (256 : Int) = b0 at *
  generalize uW (crcF l) / (256 : Int) % (256 : Int) = b1 at *
  generalize uW (crcF l) / (65536 : Int) % (256 : Int) = b2 at *
  generalize uW (crcF l) / (16777216 : Int) % (256 : Int) = b3 at *
  clear hb4 d0
  obtain ⟨w5, e5⟩ : ∃ w5, w5 = w4.alloc (.cells #[.int .u8 b0, .int .u8 b1, .int .u8 b2, .int .u8 b3] 42 (0, 0)) := ⟨_, rfl⟩
  have X5 : Hid (w5.heap[w4.heap.size]? = some (.cells #[.int .u8 b0, .int .u8 b1, .int .u8 b2, .int .u8 b3] 42 (0, 0))) := by rw [e5]; exact heap_alloc_last _ _
  have B5 : Hid (Below w3.heap.size w3 w5) := by rw [e5]; exact B4.out.trans (((Below.refl _ _).alloc (Nat.le_refl _) _).mono B4.out.size)
  go_upto_region 9 with fail
  rw [← e5]
  clear e5
  have d0 : w5.cell? ⟨g, 0, none⟩ = some (.slice (some ⟨k, 0, none⟩) n c) := (B5.out.cell (p := ⟨g, 0, none⟩) (blk_in G3.out)).trans (by simp [World.cell?, G3.out])
  have O5 : Hid (w5.drew.ownsRow g 5 1 (.slice (some ⟨k, 0, none⟩) n c) n (bvL l)) := O3.out.kept (row := none) ⟨B5.out.os, B5.out.tape, B5.out.output, B5.out.size, fun j hj _ => B5.out.block j hj⟩ (by simp [Value.ownBlock])
  have S5 : Hid (∀ (j : Nat) u, ([.int .u8 b0, .int .u8 b1, .int .u8 b2, .int .u8 b3] : List Value)[j]? = some u → w5.drew.cell? ((⟨w4.heap.size, 0, none⟩ : Addr).add j) = some u) := fun j u hu => by
    rw [Addr.add_mid, Nat.zero_add]
    show w5.cell? _ = _
    rw [World.cell?, X5.out]
    simpa using hu
  have GK : Hid (w.heap.size ≤ g ∧ g ≤ w5.heap.size) := ⟨WG.out, by have := blk_in G3.out; have := B5.out.size; omega⟩
  have GB5 : Hid (Below w.heap.size w w5.drew) := (GB3.out.trans (B5.out.mono GB3.out.size)).drew
  obtain ⟨i, hi, hz, hs, hy⟩ := u8_info
  go_region_law ((rw [if_pos (by rfl)]; refine wp_append_own _ _ _ 27 rfl g 5 i _ 1 1 Tryz.underlying27 hi hz hs hy rfl (by decide) _ n (bvL l) rfl O5.out ⟨w4.heap.size, 0, none⟩ 4 4 [.int .u8 b0, .int .u8 b1, .int .u8 b2, .int .u8 b3] rfl rfl S5.out (by intro u hu; simp at hu; rcases hu with rfl | rfl | rfl | rfl <;> rfl) (by have := NL.out; have := LE.out; unfold maxLen; omega) (by have := NL.out; have := LE.out; omega) GK.out.2 ?_; intro v' w' k1 k2 k3))
  have k2' : w5.drew.grownBy w' (Value.slice (some ⟨k, 0, none⟩) n c).ownBlock := k2
  have B6 : Hid (Below w.heap.size w w') := GB5.out.grown k2' (by have := GK.out; show _ ≤ w5.heap.size; omega) (fun j hj => by have := (O5.out.lt j hj).1; have := GK.out.1; omega)
  have K1 : Hid (w'.ownsRow w.heap.size 5 1 v' (l ++ cr4N (crcF l)).length (bvL (l ++ cr4N (crcF l)))) := by
    show World.ownsRow _ _ _ _ _ _ _
    rw [bvL_app, CR.out, List.length_append, ← NL.out]
    exact ownsRow_mono k1 GK.out.1
  clear k1 k2 k3 k2' hi hz hs hy d0
  go_wp2
  exact bodyPost_ret (v := .tuple #[v', .int .i64 0]) (by simp [results, Tryz.results4, go_sem]) rfl ⟨⟨v', rfl, K1.out⟩, B6.out⟩
theorem EncodeX (m : ImR) (x1 x2 x3 : Option Addr) (p1 p2 p3 : Nat) (w : World) {S : Nat → Prop} (hS : ∀ b, S b → b < w.heap.size) (hq : ImQ S w m x1 x2 x3) (ho : ImOk m) :
    Calls Tryz.prog 4 #[.agg #[.string m.nm, .slice x1 m.cs.length p1, .slice x2 m.fs.length p2, .slice x3 m.js.length p3]] w fun e w' => EnR w.heap.size m e w' ∧ Below w.heap.size w w' := by
  by_cases hc : (chk m).2.2 = 0
  · by_cases hg : 4194304 < (imbN m).length + 4
    · refine (EncodeX_1 m x1 x2 x3 p1 p2 p3 w hS hq ho hc hg).mono ?_
      rintro e w' ⟨he, hb⟩
      refine ⟨⟨.slice none 0 0, ?_, ?_⟩, hb⟩
      · rw [he, if_neg (by simp [hc]), if_pos hg]
      · rw [if_neg (by simp [hc]), if_pos hg]; exact World.ownsRow_nil _ _ _ _
    · refine (EncodeX_2 m x1 x2 x3 p1 p2 p3 w hS hq ho hc hg).mono ?_
      rintro e w' ⟨⟨v, he, hv⟩, hb⟩
      refine ⟨⟨v, ?_, ?_⟩, hb⟩
      · rw [he, if_neg (by simp [hc]), if_neg hg]
      · rw [if_neg (by simp [hc]), if_neg hg]; exact hv
  · refine (EncodeX_0 m x1 x2 x3 p1 p2 p3 w hS hq ho hc).mono ?_
    rintro e w' ⟨he, hb⟩
    refine ⟨⟨.slice none 0 0, ?_, ?_⟩, hb⟩
    · rw [he, if_pos hc]
    · rw [if_pos hc]; exact World.ownsRow_nil _ _ _ _
end Go.Proofs.YtkickdmomompjaaGreat
namespace Go.Proofs.YtkickdmomompjaaGreat
set_option linter.unusedVariables false
set_option linter.unusedSimpArgs false
open Go.RowKit
/-- The bytes between the beginning and the sum. -/
def inn (l : List Nat) : List Nat := l.take (l.length - 4)
def decM (l : List Nat) : ImR := (rdIm (inn l) ⟨4, 0, 0⟩).1
def decT (l : List Nat) : RS := rdEnd (inn l) (rdIm (inn l) ⟨4, 0, 0⟩).2
/-- What is at fault, and where. -/
def decE (l : List Nat) : Int × Int := if (frO l).2 ≠ 0 then frO l else if (decT l).y ≠ 0 then ((decT l).a, (decT l).y) else (0, (chk (decM l)).2.2)
theorem jump_ret {l : Nat} {J : Act → World → Prop} {Q : Exit → Act → World → Prop} {a : Act} {w : World} (h : Q .ret a w) : Exit.jump l J Q .ret a w := h
theorem img_info : (Tryz.prog.info? 26).map (·.size) = some 4 := by kernel_rfl
/-- What is answered: nothing with a fault, else an image in memory of its own. -/
def DecZ (m : ImR) (f : Int) (lo : Nat) (w' : World) (z : Value) : Prop := (f ≠ 0 → z = .agg #[.string ⟨#[]⟩, .slice none 0 0, .slice none 0 0, .slice none 0 0]) ∧ (f = 0 → ∃ x1 c1 x2 c2 x3 c3, z = .agg #[.string m.nm, .slice x1 m.cs.length c1, .slice x2 m.fs.length c2, .slice x3 m.js.length c3] ∧ ImQ (Fresh lo w'.heap.size) w' m x1 x2 x3)
set_option maxRecDepth 20000 in
set_option maxHeartbeats 8000000 in
theorem decW (x : Option Addr) (c n : Nat) (w : World) (p1 n1 p2 n2 : Int) (m : ImR) (D : Int × Int) (hc : n ≤ c) (hl : n1 = 0 → 8 ≤ n ∧ n ≤ 4194304)
    (hD : D = if n1 ≠ 0 then (p1, n1) else if n2 ≠ 0 then (p2, n2) else (0, (chk m).2.2)) (h0 : n2 = 0 → p2 = 0) (hM : n1 = 0 → n2 = 0 → ImOk m)
    (hF : ∀ W, Below w.heap.size w W → Calls Tryz.prog 16 #[.slice x n c] W fun e w' => e = .returned (.tuple #[.int .i64 p1, .int .i64 n1]) ∧ Below W.heap.size W w')
    (hR : n1 = 0 → ∀ W, Below w.heap.size w W → Calls Tryz.prog 17 #[.slice x (n - 4) c] W fun e w' => (∃ x1 c1 x2 c2 x3 c3, e = .returned (.tuple #[.agg #[.string m.nm, .slice x1 m.cs.length c1, .slice x2 m.fs.length c2, .slice x3 m.js.length c3], .int .i64 p2, .int .i64 n2]) ∧ ImQ (Fresh W.heap.size w'.heap.size) w' m x1 x2 x3) ∧ Below W.heap.size W w') :
    Calls Tryz.prog 7 #[.slice x n c] w fun e w' => (∃ z, e = .returned (.tuple #[z, .int .i64 D.1, .int .i64 D.2]) ∧ DecZ m D.2 w.heap.size w' z) ∧ Below w.heap.size w w' := by
  have FR : Hid (∀ W, Below w.heap.size w W → Calls Tryz.prog 16 #[.slice x n c] W fun e w' => e = .returned (.tuple #[.int .i64 p1, .int .i64 n1]) ∧ Below W.heap.size W w') := hF
  have RX : Hid (n1 = 0 → ∀ W, Below w.heap.size w W → Calls Tryz.prog 17 #[.slice x (n - 4) c] W fun e w' => (∃ x1 c1 x2 c2 x3 c3, e = .returned (.tuple #[.agg #[.string m.nm, .slice x1 m.cs.length c1, .slice x2 m.fs.length c2, .slice x3 m.js.length c3], .int .i64 p2, .int .i64 n2]) ∧ ImQ (Fresh W.heap.size w'.heap.size) w' m x1 x2 x3) ∧ Below W.heap.size W w') := hR
  have HC : Hid (n ≤ c) := hc
  have HL : Hid (n1 = 0 → 8 ≤ n ∧ n ≤ 4194304) := hl
  have HD : Hid (D = if n1 ≠ 0 then (p1, n1) else if n2 ≠ 0 then (p2, n2) else (0, (chk m).2.2)) := hD
  have H0 : Hid (n2 = 0 → p2 = 0) := h0
  have HM : Hid (n1 = 0 → n2 = 0 → ImOk m) := hM
  clear hF hR hc hl hD h0 hM
  obtain ⟨G, hG⟩ : ∃ G, w.heap.size = G := ⟨_, rfl⟩
  obtain ⟨A0, e0⟩ : ∃ A0, A0 = w.alloc (.cells #[.string ⟨#[]⟩, .slice none 0 0, .slice none 0 0, .slice none 0 0] 26 (0, 0)) := ⟨_, rfl⟩
  obtain ⟨AW, eW⟩ : ∃ AW, AW = A0.alloc (.cells #[.string ⟨#[]⟩, .slice none 0 0, .slice none 0 0, .slice none 0 0] 26 (0, 0)) := ⟨_, rfl⟩
  have S0 : A0.heap.size = G + 1 := by rw [e0, ← hG]; simp
  have X0 : Hid (AW.heap[G]? = some (.cells #[.string ⟨#[]⟩, .slice none 0 0, .slice none 0 0, .slice none 0 0] 26 (0, 0))) := by
    rw [eW]
    refine ((gb_alloc A0 _ none).block G (by omega) (by simp)).trans ?_
    rw [e0, ← hG]
    exact heap_alloc_last _ _
  have Y0 : Hid (AW.heap[G + 1]? = some (.cells #[.string ⟨#[]⟩, .slice none 0 0, .slice none 0 0, .slice none 0 0] 26 (0, 0))) := by rw [eW, ← S0]; exact heap_alloc_last _ _
  have Z0 : Hid (G + 1 < AW.heap.size) := by rw [eW]; show _ < _; simp [S0]
  have B0 : Hid (Below w.heap.size w AW) := by rw [eW, e0]; exact ((Below.refl _ _).alloc (Nat.le_refl _) _).alloc (by simp) _
  have HG : Hid (w.heap.size = G) := hG
  go_enter Tryz.func7, Tryz.ntmps7
  go_wp2
  rw [← e0]
  try rw [hG]
  clear e0
  refine wp_scope_jumps (rest := ?rest) 0 (fun a' w' => ∃ (u8 u9 u10 u11 u12 u13 u14 u15 u16 u17 u18 u19 u20 u21 u22 u23 u24 u25 u26 u27 u28 u29 u30 u31 u32 u33 u34 u35 u36 u37 u38 : Value), a' = { tmps := #[.slice x n c, undef, .pointer (some ⟨G, 0, none⟩), .int .i64 0, .int .i64 0, .pointer (some ⟨G + 1, 0, none⟩), .int .i64 D.1, .int .i64 D.2, u8, u9, u10, u11, u12, u13, u14, u15, u16, u17, u18, u19, u20, u21, u22, u23, u24, u25, u26, u27, u28, u29, u30, u31, u32, u33, u34, u35, u36, u37, u38], defers := [] } ∧ D.2 ≠ 0 ∧ w'.heap[G]? = some (.cells #[.string ⟨#[]⟩, .slice none 0 0, .slice none 0 0, .slice none 0 0] 26 (0, 0)) ∧ Below w.heap.size w w') (fun _ _ => 0) ?hf ?first ?pass
  case hf => exact rfl
  case first =>
    go_upto_region 2 with fail
    try rw [S0]
    rw [← eW]
    clear eW S0 hG
    go_wp2_with (go_at_call 16; refine (FR.out _ B0.out).mono ?_)
    rintro e w1 ⟨rfl, hb⟩
    have B1 : Hid (Below w.heap.size w w1) := B0.out.trans (hb.mono B0.out.size)
    have X1 : Hid (w1.heap[G]? = some (.cells #[.string ⟨#[]⟩, .slice none 0 0, .slice none 0 0, .slice none 0 0] 26 (0, 0))) := (hb.block G (by have := Z0.out; omega)).trans X0.out
    have Y1 : Hid (w1.heap[G + 1]? = some (.cells #[.string ⟨#[]⟩, .slice none 0 0, .slice none 0 0, .slice none 0 0] 26 (0, 0))) := (hb.block (G + 1) Z0.out).trans Y0.out
    have Z1 : Hid (G + 1 < w1.heap.size) := Nat.lt_of_lt_of_le Z0.out hb.size
    clear hb B0 X0 Y0 Z0
    by_cases q1 : n1 = 0
    case neg =>
      have D1 : D = (p1, n1) := by rw [HD.out, if_pos q1]
      subst D1
      go_wp2
      exact wp_goto ⟨rfl, _, _, _, _, _, _, _, _, _, _, _, _, _, _, _, _, _, _, _, _, _, _, _, _, _, _, _, _, _, _, _, rfl, q1, X1.out, B1.out⟩
    case pos =>
      subst q1
      obtain ⟨E, eE⟩ : ∃ E, n = E + 4 := ⟨n - 4, by have := HL.out rfl; omega⟩
      obtain ⟨N4, e4⟩ : ∃ N4, N4 = E + 4 := ⟨_, rfl⟩
      rw [← e4] at eE
      subst eE
      have HE : Hid (n = E + 4) := e4
      clear e4
      have LE : Hid (8 ≤ n ∧ n ≤ 4194304) := HL.out rfl
      have e1 : wrap64 ((n : Int) - 4) = (E : Int) := by have := LE.out; have := HE.out; unfold wrap64; omega
      have e2 : (E : Int) ≤ c := by have := HC.out; have := HE.out; omega
      have e3 : (0 : Int) ≤ E := by omega
      have RY : Hid (∀ W, Below w.heap.size w W → Calls Tryz.prog 17 #[.slice x E c] W fun e w' => (∃ x1 c1 x2 c2 x3 c3, e = .returned (.tuple #[.agg #[.string m.nm, .slice x1 m.cs.length c1, .slice x2 m.fs.length c2, .slice x3 m.js.length c3], .int .i64 p2, .int .i64 n2]) ∧ ImQ (Fresh W.heap.size w'.heap.size) w' m x1 x2 x3) ∧ Below W.heap.size W w') := fun W hW => by have q := RX.out rfl W hW; rw [show n - 4 = E by have := HE.out; omega] at q; exact q
      clear RX
      go_upto_region 4 with fail
      go_wp2_with (go_at_call 17; refine (RY.out _ B1.out).mono ?_)
      rintro e w2 ⟨⟨x1, c1, x2, c2, x3, c3, rfl, hq⟩, hb⟩
      have B2 : Hid (Below w.heap.size w w2) := B1.out.trans (hb.mono B1.out.size)
      have X2 : Hid (w2.heap[G]? = some (.cells #[.string ⟨#[]⟩, .slice none 0 0, .slice none 0 0, .slice none 0 0] 26 (0, 0))) := (hb.block G (by have := Z1.out; omega)).trans X1.out
      have Y2 : w2.heap[G + 1]? = some (.cells #[.string ⟨#[]⟩, .slice none 0 0, .slice none 0 0, .slice none 0 0] 26 (0, 0)) := (hb.block (G + 1) Z1.out).trans Y1.out
      have Q2 : Hid (ImQ (Fresh w1.heap.size w2.heap.size) w2 m x1 x2 x3) := hq
      have Z2 : Hid (G + 1 < w1.heap.size ∧ w1.heap.size ≤ w2.heap.size) := ⟨Z1.out, hb.size⟩
      clear hb hq B1 X1 Y1 Z1
      go_upto_region 5 with (refine wpList_store_row rfl 26 _ _ rfl (G + 1) _ rfl rfl _ _ Y2 img_info rfl (by kernel_rfl) ?_)
      have Y3 := setRow_heap w2 (G + 1) _ (#[.string m.nm, .slice x1 m.cs.length c1, .slice x2 m.fs.length c2, .slice x3 m.js.length c3]) _ _ Y2
      have B3 : Hid (Below w.heap.size w (w2.setRow (G + 1) #[.string m.nm, .slice x1 m.cs.length c1, .slice x2 m.fs.length c2, .slice x3 m.js.length c3])) := row_below_d B2.out (by have := HG.out; omega) _
      have X3 : Hid ((w2.setRow (G + 1) #[.string m.nm, .slice x1 m.cs.length c1, .slice x2 m.fs.length c2, .slice x3 m.js.length c3]).heap[G]? = some (.cells #[.string ⟨#[]⟩, .slice none 0 0, .slice none 0 0, .slice none 0 0] 26 (0, 0))) := (setRow_other _ _ _ _ (by omega)).trans X2.out
      have Q3 : Hid (ImQ (Fresh w1.heap.size w2.heap.size) (w2.setRow (G + 1) #[.string m.nm, .slice x1 m.cs.length c1, .slice x2 m.fs.length c2, .slice x3 m.js.length c3]) m x1 x2 x3) := Q2.out.fr (fun q hq => World.cell?_of_block (setRow_other _ _ _ _ (by have := hq.1; have := Z2.out; omega)))
      have S3 : Hid (w2.heap.size ≤ (w2.setRow (G + 1) #[.string m.nm, .slice x1 m.cs.length c1, .slice x2 m.fs.length c2, .slice x3 m.js.length c3]).heap.size) := by show _ ≤ _; simp [World.setRow]
      generalize w2.setRow (G + 1) #[.string m.nm, .slice x1 m.cs.length c1, .slice x2 m.fs.length c2, .slice x3 m.js.length c3] = W3 at *
      have YH : Hid (W3.heap[G + 1]? = some (.cells #[.string m.nm, .slice x1 m.cs.length c1, .slice x2 m.fs.length c2, .slice x3 m.js.length c3] 26 (0, 0))) := Y3
      clear Y2 Y3 Q2 X2 B2
      by_cases q2 : n2 = 0
      case neg =>
        have D1 : D = (p2, n2) := by rw [HD.out, if_neg (fun h => h rfl), if_pos q2]
        subst D1
        go_wp2
        exact wp_goto ⟨rfl, _, _, _, _, _, _, _, _, _, _, _, _, _, _, _, _, _, _, _, _, _, _, _, _, _, _, _, _, _, _, _, rfl, q2, X3.out, B3.out⟩
      case pos =>
        subst q2
        have OK : Hid (ImOk m) := by have q := HM.out; show ImOk m; simpa using q
        have CK : Hid (Calls Tryz.prog 5 #[.agg #[.string m.nm, .slice x1 m.cs.length c1, .slice x2 m.fs.length c2, .slice x3 m.js.length c3]] W3 fun e w' => e = .returned (.tuple #[.int .i64 (chk m).1, .int .i64 (chk m).2.1, .int .i64 (chk m).2.2]) ∧ Below W3.heap.size W3 w') := CheckI_of m x1 x2 x3 c1 c2 c3 W3 (fun b hb => Nat.lt_of_lt_of_le hb.2 S3.out) Q3.out OK.out
        have P2 : p2 = 0 := H0.out rfl
        subst P2
        obtain ⟨⟨k1, k2, k3⟩, ek⟩ : ∃ k, chk m = k := ⟨_, rfl⟩
        rw [ek] at HD CK
        have HK : Hid (chk m = (k1, k2, k3)) := ek
        clear ek OK HM
        go_upto_region 6 with fail
        go_wp2_with (refine wpList_load_row rfl 26 _ rfl (G + 1) rfl 26 #[.string m.nm, .slice x1 m.cs.length c1, .slice x2 m.fs.length c2, .slice x3 m.js.length c3] (0, 0) _ YH.out Tryz.underlying26 rfl img_info ?_)
        refine (CK.out).mono ?_
        rintro e w4 ⟨rfl, hb⟩
        have B4 : Hid (Below w.heap.size w w4) := B3.out.trans (hb.mono B3.out.size)
        have X4 : Hid (w4.heap[G]? = some (.cells #[.string ⟨#[]⟩, .slice none 0 0, .slice none 0 0, .slice none 0 0] 26 (0, 0))) := (hb.block G (blk_in' X3.out)).trans X3.out
        have Y4 : Hid (w4.heap[G + 1]? = some (.cells #[.string m.nm, .slice x1 m.cs.length c1, .slice x2 m.fs.length c2, .slice x3 m.js.length c3] 26 (0, 0))) := (hb.block (G + 1) (blk_in' YH.out)).trans YH.out
        have Q4 : Hid (ImQ (Fresh w1.heap.size w2.heap.size) w4 m x1 x2 x3) := Q3.out.fr (fun q hq => hb.cell (Nat.lt_of_lt_of_le hq.2 S3.out))
        have S4 : Hid (w2.heap.size ≤ w4.heap.size) := Nat.le_trans S3.out hb.size
        clear hb B3 X3 YH Q3 S3 CK
        by_cases q3 : k3 = 0
        case neg =>
          have D1 : D = (0, k3) := by rw [HD.out, if_neg (fun h => h rfl), if_neg (fun h => h rfl)]
          subst D1
          go_wp2
          exact wp_goto ⟨rfl, _, _, _, _, _, _, _, _, _, _, _, _, _, _, _, _, _, _, _, _, _, _, _, _, _, _, _, _, _, _, _, rfl, q3, X4.out, B4.out⟩
        case pos =>
          subst q3
          have D1 : D = (0, 0) := by rw [HD.out, if_neg (fun h => h rfl), if_neg (fun h => h rfl)]
          subst D1
          go_wp2_with (first | (refine wpList_load_row rfl 26 _ rfl (G + 1) rfl 26 #[.string m.nm, .slice x1 m.cs.length c1, .slice x2 m.fs.length c2, .slice x3 m.js.length c3] (0, 0) _ Y4.out Tryz.underlying26 rfl img_info ?_) | (refine wpList_store_row rfl 26 _ _ rfl G _ rfl rfl _ _ X4.out img_info rfl (by kernel_rfl) ?_))
          refine jump_ret ?_
          refine bodyPost_ret (v := .tuple #[.agg #[.string m.nm, .slice x1 m.cs.length c1, .slice x2 m.fs.length c2, .slice x3 m.js.length c3], .int .i64 0, .int .i64 0]) (results_cell_row_2 Tryz.results7 _ _ G _ _ (0, 0) _ (by first | rfl | simp [Act.put]) (setRow_heap _ _ _ _ _ _ X4.out) Tryz.underlying26 rfl img_info) rfl ?_
          have zz := Z2.out
          have gg := HG.out
          refine ⟨⟨_, rfl, ⟨fun h => absurd rfl h, fun _ => ⟨x1, c1, x2, c2, x3, c3, rfl, ?_⟩⟩⟩, row_below_d B4.out (by omega) _⟩
          refine (Q4.out.fr (fun q hq => World.cell?_of_block (setRow_other _ _ _ _ (by have := hq.1; omega)))).sub (up_sub' (by omega) ?_)
          have := S4.out
          simp [World.setRow]
          exact this
  case pass =>
    rintro a' w' ⟨u8, u9, u10, u11, u12, u13, u14, u15, u16, u17, u18, u19, u20, u21, u22, u23, u24, u25, u26, u27, u28, u29, u30, u31, u32, u33, u34, u35, u36, u37, u38, rfl, hne, hX, hB⟩
    go_wp2_with (refine wpList_store_row rfl 26 _ _ rfl G _ rfl rfl _ _ hX img_info rfl (by kernel_rfl) ?_)
    refine jump_ret ?_
    refine bodyPost_ret (v := .tuple #[.agg #[.string ⟨#[]⟩, .slice none 0 0, .slice none 0 0, .slice none 0 0], .int .i64 D.1, .int .i64 D.2]) (results_cell_row_2 Tryz.results7 _ _ G _ _ (0, 0) _ (by first | rfl | simp [Act.put]) (setRow_heap _ _ _ _ _ _ hX) Tryz.underlying26 rfl img_info) rfl ?_
    exact ⟨⟨_, rfl, ⟨fun _ => rfl, fun h => absurd h hne⟩⟩, row_below_d hB (by have := HG.out; omega) _⟩
theorem frO_ok {l : List Nat} (h : (frO l).2 = 0) : 8 ≤ l.length ∧ l.length ≤ 4194304 := by
  unfold frO at h
  by_cases q : 4194304 < l.length
  · rw [if_pos q] at h; cases h
  · rw [if_neg q] at h
    cases hf : fm l with
    | some i => rw [hf] at h; cases h
    | none =>
      rw [hf] at h
      by_cases q8 : l.length < 8
      · have h' : (if l.length < 8 then ((l.length : Int), (2 : Int)) else if cr4N (crcF (l.take (l.length - 4))) = l.drop (l.length - 4) then (0, 0) else ((l.length : Int) - 4, 201)).2 = 0 := h
        rw [if_pos q8] at h'; cases h'
      · exact ⟨by omega, by omega⟩
theorem inn_len (l : List Nat) : (inn l).length = l.length - 4 := by unfold inn; rw [List.length_take]; omega
theorem inn_at {l : List Nat} {j b : Nat} (h : (inn l)[j]? = some b) : l[j]? = some b := by
  unfold inn at h
  rw [List.getElem?_take] at h
  split at h
  · exact h
  · cases h
theorem decT_0 {l : List Nat} (h : (decT l).y = 0) : (decT l).a = 0 ∧ (rdIm (inn l) ⟨4, 0, 0⟩).2.y = 0 := by
  have q := kdEnd (inn l) _ h
  have q2 := kdIm (inn l) ⟨4, 0, 0⟩ q.1
  exact ⟨q.2.trans q2.2, q.1⟩
theorem dec_ok {l : List Nat} (h8 : ∀ b ∈ l, b < 256) (h : (frO l).2 = 0) (hy : (decT l).y = 0) : ImOk (decM l) := by
  have hl := frO_ok h
  have hn : (inn l).length ≤ 4194304 := by rw [inn_len]; omega
  refine okIm (inn l) hn (fun v hv => h8 v (List.mem_of_mem_take (by unfold inn at hv; exact hv))) (fun s => Nat.le_trans (okT (inn l) s) hn) ⟨4, 0, 0⟩ ?_ (decT_0 hy).2
  show 4 ≤ (inn l).length
  rw [inn_len]; omega
theorem frameBig (x : Option Addr) (c : Nat) (l : List Nat) (w : World) (hb : 4194304 < l.length) :
    Calls Tryz.prog 16 #[.slice x l.length c] w fun e w' => e = .returned (.tuple #[.int .i64 (frO l).1, .int .i64 (frO l).2]) ∧ Below w.heap.size w w' := by
  have hb' : (4194304 : Int) < l.length := by omega
  have e : frO l = (0, 4) := by unfold frO; rw [if_pos hb]
  rw [e]
  clear hb e
  go_enter Tryz.func16, Tryz.ntmps16
  go_wp2
  go_ret2
  exact ⟨rfl, Below.refl _ _⟩
theorem DecodeX (x : Option Addr) (c : Nat) (l : List Nat) (w : World) (h8 : ∀ b ∈ l, b < 256) (hx : BySl x l w) (hc : l.length ≤ c) :
    Calls Tryz.prog 7 #[.slice x l.length c] w fun e w' => (∃ z, e = .returned (.tuple #[z, .int .i64 (decE l).1, .int .i64 (decE l).2]) ∧ DecZ (decM l) (decE l).2 w.heap.size w' z) ∧ Below w.heap.size w w' := by
  have up : ∀ W, Below w.heap.size w W → BySl x l W := fun W hW k b hb => by
    obtain ⟨kb, o, e, h1, h2⟩ := hx k b hb
    exact ⟨kb, o, e, Nat.lt_of_lt_of_le h1 hW.size, (hW.cell h1).trans h2⟩
  refine decW x c l.length w (frO l).1 (frO l).2 (decT l).a (decT l).y (decM l) (decE l) hc frO_ok rfl (fun h => (decT_0 h).1) (fun h hy => dec_ok h8 h hy) (fun W hW => ?_)  (fun h W hW => ?_)
  · by_cases hb : 4194304 < l.length
    · exact frameBig x c l W hb
    · exact frameX x c l W h8 (up W hW) hc (by omega)
  have hl := frO_ok h
  obtain ⟨b0, hb0⟩ : ∃ b, l[0]? = some b := ⟨_, List.getElem?_eq_getElem (by omega)⟩
  obtain ⟨kb, o, e, h1, _⟩ := up W hW 0 _ hb0
  subst e
  have q := readX kb o c (inn l) W (fun k b hb => by
    obtain ⟨kb', o', e, _, h2⟩ := up W hW k b (inn_at hb)
    cases e
    exact h2) (by rw [inn_len]; omega) (by rw [inn_len]; omega) (by rw [inn_len]; omega) h1 (fun v hv => h8 v (List.mem_of_mem_take (by unfold inn at hv; exact hv)))
  rw [inn_len] at q
  exact q
end Go.Proofs.YtkickdmomompjaaGreat
namespace Go.Proofs.YtkickdmomompjaaGreat
set_option linter.unusedVariables false
set_option linter.unusedSimpArgs false
open Go.RowKit
theorem crS_0 {d : BitVec 32} (h : crS d = 0#32) : d = 0#32 := by
  unfold crS at h
  by_cases q : d.getLsbD 0 = true
  · rw [if_pos q] at h
    have e := congrArg (fun x : BitVec 32 => x.getLsbD 31) h
    simp only [BitVec.getLsbD_xor, BitVec.getLsbD_ushiftRight] at e
    rw [BitVec.getLsbD_of_ge d (1 + 31) (by omega)] at e
    exact absurd e (by decide)
  · rw [if_neg q] at h
    rw [BitVec.xor_zero] at h
    apply BitVec.eq_of_getLsbD_eq
    intro i hi
    rw [BitVec.getLsbD_zero]
    match i with
    | 0 => simpa using q
    | k + 1 =>
      have e := congrArg (fun x : BitVec 32 => x.getLsbD k) h
      simp only [BitVec.getLsbD_ushiftRight, BitVec.getLsbD_zero] at e
      rw [Nat.add_comm] at e
      exact e
theorem xor_0 {a b : BitVec 32} (h : a ^^^ b = 0#32) : a = b := by
  have e : (a ^^^ b) ^^^ b = 0#32 ^^^ b := by rw [h]
  rw [BitVec.xor_assoc, BitVec.xor_self, BitVec.xor_zero, BitVec.zero_xor] at e
  exact e
theorem crN_0 : ∀ (n : Nat) {d : BitVec 32}, crN n d = 0#32 → d = 0#32
  | 0, d, h => h
  | n + 1, d, h => crS_0 (crN_0 n h)
theorem crN_inj {n : Nat} {a b : BitVec 32} (h : crN n a = crN n b) : a = b := xor_0 (crN_0 n (by rw [crN_xor, h, BitVec.xor_self]))
theorem crB_c {a b x : BitVec 32} (h : crB a x = crB b x) : a = b := by
  have e := crN_inj h
  have e2 : (a ^^^ x) ^^^ x = (b ^^^ x) ^^^ x := by rw [e]
  rw [BitVec.xor_assoc, BitVec.xor_assoc, BitVec.xor_self, BitVec.xor_zero, BitVec.xor_zero] at e2
  exact e2
theorem crB_x {a x y : BitVec 32} (h : crB a x = crB a y) : x = y := by
  have e := crN_inj h
  have e2 : a ^^^ (a ^^^ x) = a ^^^ (a ^^^ y) := by rw [e]
  rw [← BitVec.xor_assoc, ← BitVec.xor_assoc, BitVec.xor_self, BitVec.zero_xor, BitVec.zero_xor] at e2
  exact e2
theorem crL_c : ∀ {l : List Nat} {a b : BitVec 32}, crL a l = crL b l → a = b
  | [], a, b, h => h
  | x :: l, a, b, h => crB_c (crL_c (l := l) h)
theorem crL_set : ∀ {l : List Nat} {k x y : Nat} {a : BitVec 32}, l[k]? = some y → x < 256 → y < 256 → crL a (l.set k x) = crL a l → x = y
  | [], k, x, y, a, h, _, _, _ => by simp at h
  | z :: l, 0, x, y, a, h, hx, hy, e => by
    simp at h
    subst h
    have q := crB_x (crL_c (l := l) e)
    have q2 := congrArg BitVec.toNat q
    rw [BitVec.toNat_ofNat, BitVec.toNat_ofNat] at q2
    omega
  | z :: l, k + 1, x, y, a, h, hx, hy, e => crL_set (l := l) (k := k) (by simpa using h) hx hy e
theorem crcF_set {l : List Nat} {k x y : Nat} (h : l[k]? = some y) (hx : x < 256) (hy : y < 256) (e : crcF (l.set k x) = crcF l) : x = y := by
  unfold crcF at e
  have e2 : (crL 4294967295#32 (l.set k x) ^^^ 4294967295#32) ^^^ 4294967295#32 = (crL 4294967295#32 l ^^^ 4294967295#32) ^^^ 4294967295#32 := by rw [e]
  rw [BitVec.xor_assoc, BitVec.xor_assoc, BitVec.xor_self, BitVec.xor_zero, BitVec.xor_zero] at e2
  exact crL_set h hx hy e2
theorem cr4N_inj {a b : BitVec 32} (h : cr4N a = cr4N b) : a = b := by
  unfold cr4N at h
  have ha := uW_range a
  have hb := uW_range b
  simp only [List.cons.injEq, and_true] at h
  obtain ⟨h0, h1, h2, h3⟩ := h
  have e : uW a = uW b := by omega
  unfold uW at e
  apply BitVec.eq_of_toNat_eq
  omega
/-- The file of an image. -/
def fileN (m : ImR) : List Nat := imbN m ++ cr4N (crcF (imbN m))
theorem cr4N_len (c : BitVec 32) : (cr4N c).length = 4 := rfl
theorem fileN_len (m : ImR) : (fileN m).length = (imbN m).length + 4 := by unfold fileN; rw [List.length_append, cr4N_len]
theorem inn_file (m : ImR) : inn (fileN m) = imbN m := by
  unfold inn
  rw [fileN_len, Nat.add_sub_cancel]
  unfold fileN
  exact List.take_left' rfl
theorem drop_file (m : ImR) : (fileN m).drop ((fileN m).length - 4) = cr4N (crcF (imbN m)) := by
  rw [fileN_len, Nat.add_sub_cancel]
  unfold fileN
  exact List.drop_left' rfl
/-- What a frame without a fault says. -/
theorem fr_ok {l : List Nat} (h : (frO l).2 = 0) : 8 ≤ l.length ∧ l.length ≤ 4194304 ∧ fm l = none ∧ cr4N (crcF (inn l)) = l.drop (l.length - 4) := by
  obtain ⟨h1, h2⟩ := frO_ok h
  unfold frO at h
  rw [if_neg (by omega)] at h
  cases hf : fm l with
  | some i => rw [hf] at h; cases h
  | none =>
    rw [hf] at h
    have h' : (if l.length < 8 then ((l.length : Int), (2 : Int)) else if cr4N (crcF (inn l)) = l.drop (l.length - 4) then (0, 0) else ((l.length : Int) - 4, 201)).2 = 0 := h
    rw [if_neg (by omega)] at h'
    by_cases q : cr4N (crcF (inn l)) = l.drop (l.length - 4)
    · exact ⟨h1, h2, rfl, q⟩
    · rw [if_neg q] at h'
      exact absurd h' (show ¬ (201 : Int) = 0 by decide)
theorem fr_yes {l : List Nat} (h1 : 8 ≤ l.length) (h2 : l.length ≤ 4194304) (hf : fm l = none) (q : cr4N (crcF (inn l)) = l.drop (l.length - 4)) : frO l = (0, 0) := by
  unfold frO
  rw [if_neg (by omega), hf]
  show (if l.length < 8 then ((l.length : Int), (2 : Int)) else if cr4N (crcF (inn l)) = l.drop (l.length - 4) then (0, 0) else ((l.length : Int) - 4, 201)) = _
  rw [if_neg (by omega), if_pos q]
theorem fm_mag {l : List Nat} (h : fm l = none) (h4 : 4 ≤ l.length) : l.take 4 = [114, 108, 121, 1] := by
  unfold fm at h
  by_cases q0 : 0 < l.length ∧ l.getD 0 0 ≠ 114
  · rw [if_pos q0] at h; cases h
  rw [if_neg q0] at h
  by_cases q1 : 1 < l.length ∧ l.getD 1 0 ≠ 108
  · rw [if_pos q1] at h; cases h
  rw [if_neg q1] at h
  by_cases q2 : 2 < l.length ∧ l.getD 2 0 ≠ 121
  · rw [if_pos q2] at h; cases h
  rw [if_neg q2] at h
  by_cases q3 : 3 < l.length ∧ l.getD 3 0 ≠ 1
  · rw [if_pos q3] at h; cases h
  match l, h4 with
  | a :: b :: c :: d :: t, _ =>
    simp at q0 q1 q2 q3
    simp [q0, q1, q2, q3]
theorem fm_of {l : List Nat} (h : l.take 4 = [114, 108, 121, 1]) : fm l = none := by
  match l, h with
  | a :: b :: c :: d :: t, h =>
    simp at h
    obtain ⟨rfl, rfl, rfl, rfl⟩ := h
    unfold fm
    simp
theorem inn_lt {l : List Nat} (h8 : ∀ b ∈ l, b < 256) : ∀ b ∈ inn l, b < 256 := fun b hb => h8 b (List.mem_of_mem_take (by unfold inn at hb; exact hb))
/-- An image of which numbers and kinds are in their ranges. -/
theorem dec_y {l : List Nat} (h8 : ∀ b ∈ l, b < 256) (hf : (frO l).2 = 0) (hy : (decT l).y = 0) : GIm (decM l) ∧ inn l = imbN (decM l) := by
  obtain ⟨h1, h2, h3, h4⟩ := fr_ok hf
  have ln : (inn l).length ≤ 4194304 := by rw [inn_len]; omega
  obtain ⟨z1, z2⟩ := decT_0 hy
  obtain ⟨a1, a2, a3, a4⟩ := (rwIm (inn_lt h8) ln).A ⟨4, 0, 0⟩ z2
  refine ⟨a2, ?_⟩
  have e : ¬ 4 + (imrN (decM l)).length < (inn l).length := fun q => by
    unfold decT rdEnd at hy
    have p : (rdIm (inn l) ⟨4, 0, 0⟩).2.p = 4 + (imrN (decM l)).length := by rw [a4]; rfl
    rw [if_pos (by rw [p]; exact q), if_pos z2] at hy
    exact absurd hy (show ¬ (3 : Int) = 0 by decide)
  have ip : 0 < (imrN (decM l)).length := by
    unfold imrN
    rw [List.length_append, List.length_append, List.length_append, tbN_len]; omega
  have a3' : Sat (inn l) 4 (imrN (decM l)) := a3
  have le := a3'.le ip
  have tk := a3'.take
  rw [imb_r]
  have t4 : (inn l).take 4 = [114, 108, 121, 1] := by
    unfold inn
    rw [List.take_take, Nat.min_eq_left (by omega)]
    exact fm_mag h3 (by omega)
  have td : (inn l).drop 4 = imrN (decM l) := (List.take_of_length_le (show ((inn l).drop 4).length ≤ (imrN (decM l)).length by rw [List.length_drop]; omega)).symm.trans tk
  rw [← t4, ← td]
  exact (List.take_append_drop 4 (inn l)).symm
/-- What is taken is an image's file. -/
theorem dec_form {l : List Nat} (h8 : ∀ b ∈ l, b < 256) (h : (decE l).2 = 0) : l = fileN (decM l) ∧ (chk (decM l)).2.2 = 0 ∧ GIm (decM l) ∧ (decE l).1 = 0 ∧ l.length ≤ 4194304 := by
  unfold decE at h
  by_cases q : (frO l).2 = 0
  · rw [if_neg (fun z => z q)] at h
    by_cases y : (decT l).y = 0
    · rw [if_neg (fun z => z y)] at h
      obtain ⟨g, e⟩ := dec_y h8 q y
      obtain ⟨h1, h2, h3, h4⟩ := fr_ok q
      refine ⟨?_, h, g, ?_, h2⟩
      · unfold fileN
        rw [← e, h4]
        unfold inn
        exact (List.take_append_drop _ _).symm
      · unfold decE
        rw [if_neg (fun z => z q), if_neg (fun z => z y)]
    · rw [if_pos y] at h
      exact absurd h y
  · rw [if_pos q] at h
    exact absurd h q
theorem imb_lt (m : ImR) (h : ∀ b ∈ imrN m, b < 256) : ∀ b ∈ imbN m, b < 256 := fun b hb => by
  rw [imb_r] at hb
  rcases List.mem_append.1 hb with z | z
  · simp at z; omega
  · exact h b z
/-- An image's file is taken, as that image. -/
theorem file_dec {m : ImR} (g : GIm m) (hb : ∀ b ∈ imbN m, b < 256) (hl : (imbN m).length + 4 ≤ 4194304) : decM (fileN m) = m ∧ decE (fileN m) = (0, (chk m).2.2) := by
  have l1 : 4 ≤ (imbN m).length := by rw [imb_r, List.length_append]; simp
  have ip : 0 < (imrN m).length := by
    unfold imrN
    rw [List.length_append, List.length_append, List.length_append, tbN_len]; omega
  have fz : frO (fileN m) = (0, 0) := by
    refine fr_yes (by rw [fileN_len, imb_r, List.length_append]; unfold imrN; rw [List.length_append, List.length_append, List.length_append, tbN_len]; (simp <;> omega)) (by rw [fileN_len]; exact hl) (fm_of ?_) ?_
    · unfold fileN
      rw [imb_r]
      rfl
    · rw [inn_file, drop_file]
  have b := (rwIm hb (by omega)).B ⟨4, 0, 0⟩ m rfl g (by
    show Sat (imbN m) 4 (imrN m)
    intro j v hj
    rw [imb_r, List.getElem?_append_right (by simp)]
    simpa using hj)
  have em : decM (fileN m) = m := by unfold decM; rw [inn_file, b]
  refine ⟨em, ?_⟩
  have et : decT (fileN m) = ⟨4 + (imrN m).length, 0, 0⟩ := by
    unfold decT
    rw [inn_file, b]
    unfold rdEnd
    rw [if_neg (by show ¬ 4 + (imrN m).length < (imbN m).length; rw [imb_r, List.length_append]; simp)]
  unfold decE
  rw [fz, et, em]
  rfl
/-- With one byte that is another one it is not taken. -/
theorem turned {m : ImR} {k x y : Nat} (hb : ∀ b ∈ fileN m, b < 256) (hx : x < 256) (hk : (fileN m)[k]? = some y) (h : (decE ((fileN m).set k x)).2 = 0) : x = y := by
  have hy := hb y (List.mem_of_getElem? hk)
  have kl := (List.getElem?_eq_some_iff.1 hk).1
  have hf : (frO ((fileN m).set k x)).2 = 0 := by
    unfold decE at h
    by_cases q : (frO ((fileN m).set k x)).2 = 0
    · exact q
    · rw [if_pos q] at h; exact absurd h q
  obtain ⟨_, _, _, h4⟩ := fr_ok hf
  have ln : ((fileN m).set k x).length = (imbN m).length + 4 := by rw [List.length_set, fileN_len]
  rw [ln, Nat.add_sub_cancel] at h4
  have ei : inn ((fileN m).set k x) = ((fileN m).set k x).take (imbN m).length := by unfold inn; rw [ln, Nat.add_sub_cancel]
  rw [ei] at h4
  by_cases q : k < (imbN m).length
  · have et : ((fileN m).set k x).take (imbN m).length = (imbN m).set k x := by
      unfold fileN
      rw [List.set_append_left _ _ q]
      exact List.take_left' (by rw [List.length_set])
    have ed : ((fileN m).set k x).drop (imbN m).length = cr4N (crcF (imbN m)) := by
      unfold fileN
      rw [List.set_append_left _ _ q]
      exact List.drop_left' (by rw [List.length_set])
    rw [et, ed] at h4
    refine crcF_set ?_ hx hy (cr4N_inj h4)
    unfold fileN at hk
    rw [List.getElem?_append_left q] at hk
    exact hk
  · have et : ((fileN m).set k x).take (imbN m).length = imbN m := by
      unfold fileN
      rw [List.set_append_right _ _ (by omega)]
      exact List.take_left' rfl
    have ed : ((fileN m).set k x).drop (imbN m).length = (cr4N (crcF (imbN m))).set (k - (imbN m).length) x := by
      unfold fileN
      rw [List.set_append_right _ _ (by omega)]
      exact List.drop_left' rfl
    rw [et, ed] at h4
    unfold fileN at hk
    rw [List.getElem?_append_right (by omega)] at hk
    have e2 := congrArg (fun t : List Nat => t[k - (imbN m).length]?) h4
    rw [hk, List.getElem?_set_self (by have := (List.getElem?_eq_some_iff.1 hk).1; exact this)] at e2
    cases e2
    rfl
/-- No beginning of what is taken is, and nothing with more behind. -/
theorem begins {l l' t : List Nat} (h8 : ∀ b ∈ l', b < 256) (hl : l' = l ++ t) (h : (decE l).2 = 0) (h' : (decE l').2 = 0) : t = [] := by
  have h8l : ∀ b ∈ l, b < 256 := fun b hb => h8 b (by rw [hl]; exact List.mem_append_left _ hb)
  obtain ⟨e, c, g, _, hz⟩ := dec_form h8l h
  obtain ⟨e', c', g', _, hz'⟩ := dec_form h8 h'
  have hi : (imbN (decM l')).length ≤ 4194304 := by have := congrArg List.length e'; rw [fileN_len] at this; omega
  have b8 : ∀ b ∈ imbN (decM l'), b < 256 := fun b hb => h8 b (by rw [e']; unfold fileN; exact List.mem_append_left _ hb)
  have n1 : l.length = (imbN (decM l)).length + 4 := by have := congrArg List.length e; rw [fileN_len] at this; exact this
  have n2 : l'.length = (imbN (decM l')).length + 4 := by have := congrArg List.length e'; rw [fileN_len] at this; exact this
  have n3 : l'.length = l.length + t.length := by rw [hl, List.length_append]
  -- what the shorter one says stands in the longer one too
  have sat : Sat (imbN (decM l')) 4 (imrN (decM l)) := fun j v hj => by
    have jl := (List.getElem?_eq_some_iff.1 hj).1
    have q1 : l[4 + j]? = some v := by
      rw [e]
      unfold fileN
      rw [imb_r, List.append_assoc, List.getElem?_append_right (by simp), List.getElem?_append_left (by simpa using jl)]
      simpa using hj
    have q2 : l'[4 + j]? = some v := by rw [hl, List.getElem?_append_left (List.getElem?_eq_some_iff.1 q1).1]; exact q1
    have il : (imbN (decM l)).length = 4 + (imrN (decM l)).length := by rw [imb_r, List.length_append]; simp
    rw [e'] at q2
    unfold fileN at q2
    rw [List.getElem?_append_left (by omega)] at q2
    exact q2
  have b1 := (rwIm b8 hi).B ⟨4, 0, 0⟩ (decM l) rfl g sat
  have b2 := (rwIm b8 hi).B ⟨4, 0, 0⟩ (decM l') rfl g' (by
    show Sat (imbN (decM l')) 4 (imrN (decM l'))
    intro j v hj
    rw [imb_r, List.getElem?_append_right (by simp)]
    simpa using hj)
  have em : decM l = decM l' := by have := b1.symm.trans b2; exact (Prod.mk.inj this).1
  rw [em] at n1
  exact List.eq_nil_of_length_eq_zero (by omega)
end Go.Proofs.YtkickdmomompjaaGreat
