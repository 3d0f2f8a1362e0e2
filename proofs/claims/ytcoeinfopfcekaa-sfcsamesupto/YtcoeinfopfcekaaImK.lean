/- How images read as arguments; no statement of the seat is proved here. -/
import Derived.Test.YtcoeinfopfcekaaRdA
import Derived.Test.YtcoeinfopfcekaaImA
namespace Go.Proofs.Ytcoeinfopfcekaa
set_option linter.unusedVariables false
open Go.RowKit Go.ChangeShapes Go.WideShapes Go.ChangeAt
/-- A number that its kind has. -/
def wfI (k : IntKind) (n : Int) : Prop := (Lit.int k n).wf = true
/-- A text that is not too long. -/
def shT (s : ByteArray) : Prop := s.size ≤ 4194304
/-- Its numbers are of their kinds. -/
def CeOk (x : CeR) : Prop := wfI .u8 x.kd ∧ wfI .i64 x.lo ∧ wfI .i64 x.hi ∧ wfI .i64 x.mx ∧ wfI .u8 x.ik ∧ wfI .u64 x.ib ∧ shT x.is ∧ wfI .i64 x.dr ∧ shT x.ad
/-- Its numbers are of their kinds. -/
def OpOk (x : OpR) : Prop := wfI .i64 x.cd ∧ wfI .i64 x.a ∧ wfI .i64 x.b ∧ wfI .i64 x.c ∧ wfI .i64 x.d ∧ wfI .i64 x.lo ∧ wfI .i64 x.hi ∧ wfI .u8 x.vk ∧ wfI .u64 x.vb ∧ shT x.vs
/-- Its numbers are of their kinds. -/
def LpOk (x : LpR) : Prop := wfI .i64 x.hd ∧ wfI .i64 x.en ∧ wfI .i64 x.tm
def FlOk (f : FlR) : Prop := shT f.nm ∧ wfI .i64 f.wh ∧ wfI .i64 f.ce ∧ wfI .i64 f.ba ∧ wfI .i64 f.rg ∧ wfI .i64 f.sl ∧ (∀ o ∈ f.os, OpOk o) ∧ (∀ o ∈ f.ls, LpOk o) ∧ f.os.length ≤ 1048576 ∧ f.ls.length ≤ 1048576
def JbOk (j : JbR) : Prop := shT j.nm ∧ wfI .i64 j.iv ∧ wfI .i64 j.sg ∧ wfI .i64 j.pr ∧ wfI .i64 j.bd ∧ (∀ o ∈ j.cs, wfI .i64 o) ∧ (∀ o ∈ j.bs, wfI .i64 o) ∧ j.cs.length ≤ 1048576 ∧ j.bs.length ≤ 1048576
def ImOk (m : ImR) : Prop := shT m.nm ∧ (∀ c ∈ m.cs, CeOk c) ∧ (∀ f ∈ m.fs, FlOk f) ∧ (∀ j ∈ m.js, JbOk j) ∧ m.cs.length ≤ 1048576 ∧ m.fs.length ≤ 1048576 ∧ m.js.length ≤ 1048576
theorem RwF.each {α : Type} {n : Nat} {P : α → List Value → Prop} {S : Nat → Prop} {w : World} {x : Option Addr} {l : List α} (h : RwF n P S w x l) : ∀ e ∈ l, ∃ vs, P e vs := by
  intro e he
  cases x with
  | none => rw [h.2.1 rfl] at he; cases he
  | some a =>
    obtain ⟨i, hi⟩ := List.mem_iff_getElem?.1 he
    obtain ⟨_, vs, hp, _⟩ := h.2.2 a rfl i e hi
    exact ⟨vs, hp⟩
section
variable {H : Type} {enc : TypeId × Value → H} {w : World} {base : Nat} {spare : Nat → Bool} {held : Bool}
theorem rd_rows {α : Type} {P : α → List Value → Prop} {fuel : Nat} {t e : TypeId} {v : Value} {x : DataW H × List MemPlace} (ht : Try.prog.underlying t = some (.slice e)) (k : Nat) (k0 : 0 < k) (hk : Try.prog.cellsOf e = k)
    (hR : ∀ (m : Nat) cs (y : DataW H × List MemPlace), DataW.trod enc Try.prog w base spare held m e cs = some y → cs.length = k → Rows.uptoBulk y.1 ≤ 1048576 → ∃ r, P r cs)
    (h : DataW.trod enc Try.prog w base spare held fuel t [v] = some x) (hb : Rows.uptoBulk x.1 ≤ 1048576) : ∃ a l c, v = .slice a (List.length l) c ∧ RwF k P (fun b => b < w.heap.size) w a l ∧ l.length ≤ 1048576 := by
  rcases rd_slice ht k hk h with rfl | ⟨a, len, cap, m, hm, rfl, hl, hi⟩
  · exact ⟨none, [], 0, rfl, RwF.nil _ _ _ _, Nat.zero_le _⟩
  · obtain ⟨l, hn, hp⟩ := pick_lt (fun i (r : α) => a.block < w.heap.size ∧ ∃ vs, P r vs ∧ CsAt w (a.add (i * k)) vs) len fun i hlt => by
      obtain ⟨cs, y, g, hc, ht, hy⟩ := hi i hlt
      obtain ⟨r, hr⟩ := hR m cs y ht hc (by omega)
      have cc : CsAt w (a.add (i * k)) cs := fun j u hu => by
        have lj : j < k := by have := (List.getElem?_eq_some_iff.1 hu).1; omega
        rw [ad_off, g j lj, hu]
      refine ⟨r, ?_, cs, hr, cc⟩
      have c0 := cc 0 (cs[0]'(by omega)) (List.getElem?_eq_getElem _)
      have := block_lt_of_cell c0
      rwa [add_block, add_block] at this
    refine ⟨some a, l, cap, by rw [hn], ⟨by show l.length < _; omega, fun e => (by cases e), fun b e i s hs => ?_⟩, by omega⟩
    cases e
    exact hp i s hs
theorem rd_int {fuel : Nat} {cs : List Value} {y : DataW H × List MemPlace} (h : DataW.trod enc Try.prog w base spare held fuel 3 cs = some y) : ∃ z, cs = [.int .i64 z] ∧ wfI .i64 z := by
  obtain ⟨z, e, _, q⟩ := DataW.trod_int Try.underlying3 h
  exact ⟨z, e, q⟩
theorem rd_u64 {fuel : Nat} {cs : List Value} {y : DataW H × List MemPlace} (h : DataW.trod enc Try.prog w base spare held fuel 37 cs = some y) : ∃ z, cs = [.int .u64 z] ∧ wfI .u64 z := by
  obtain ⟨z, e, _, q⟩ := DataW.trod_int Try.underlying37 h
  exact ⟨z, e, q⟩
theorem rd_kind {fuel : Nat} {cs : List Value} {y : DataW H × List MemPlace} (h : DataW.trod enc Try.prog w base spare held fuel 36 cs = some y) : ∃ z, cs = [.int .u8 z] ∧ wfI .u8 z := by
  obtain ⟨z, e, _, q⟩ := DataW.trod_int Try.underlying36 h
  exact ⟨z, e, q⟩
theorem rd_str {fuel : Nat} {cs : List Value} {y : DataW H × List MemPlace} (h : DataW.trod enc Try.prog w base spare held fuel 9 cs = some y) (hb : Rows.uptoBulk y.1 ≤ 1048576) : ∃ z, cs = [.string z] ∧ shT z := by
  obtain ⟨z, e, rfl, _⟩ := DataW.trod_string Try.underlying9 h
  refine ⟨z, e, ?_⟩
  simp only [Rows.uptoBulk] at hb
  have : z.data.toList.length = z.size := Array.length_toList
  unfold shT
  omega
theorem rd_bool {fuel : Nat} {cs : List Value} {y : DataW H × List MemPlace} (h : DataW.trod enc Try.prog w base spare held fuel 4 cs = some y) : ∃ z, cs = [.bool z] := by
  obtain ⟨z, e, _⟩ := DataW.trod_bool Try.underlying4 h
  exact ⟨z, e⟩
set_option maxRecDepth 20000 in
theorem rd_val {fuel : Nat} {c0 c1 c2 : Value} {y : DataW H × List MemPlace} (h : DataW.trod enc Try.prog w base spare held fuel 39 [c0, c1, c2] = some y) (hb : Rows.uptoBulk y.1 ≤ 1048576) : ∃ k b s, c0 = .int .u8 k ∧ c1 = .int .u64 b ∧ c2 = .string s ∧ wfI .u8 k ∧ wfI .u64 b ∧ shT s := by
  obtain ⟨xs, m, _, hx, _, hl, hf⟩ := rd_struct (by kernel_rfl) fieldsV h
  match xs, hl with
  | [u0, u1, u2], _ =>
    have j0 : DataW.trod enc Try.prog w base spare held m 36 [c0] = some u0 := hf 0 _ _ rfl
    have j1 : DataW.trod enc Try.prog w base spare held m 37 [c1] = some u1 := hf 1 _ _ rfl
    have j2 : DataW.trod enc Try.prog w base spare held m 9 [c2] = some u2 := hf 2 _ _ rfl
    simp only [hx, List.map_cons, List.map_nil, Rows.uptoBulk, Rows.uptoBulkAll] at hb
    obtain ⟨z0, e0, q0⟩ := rd_kind j0
    obtain ⟨z1, e1, q1⟩ := rd_u64 j1
    obtain ⟨z2, e2, q2⟩ := rd_str j2 (by omega)
    simp only [List.cons.injEq, and_true] at e0 e1 e2
    exact ⟨z0, z1, z2, e0, e1, e2, q0, q1, q2⟩
end
end Go.Proofs.Ytcoeinfopfcekaa
