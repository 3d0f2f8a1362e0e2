/- How images read as arguments; no statement of the seat is proved here. -/
import Derived.Test.YtpcjnhffpkpchaaGreatYa1
import Derived.ProofKit
import Derived.OpenShut
namespace Go.Proofs.YtpcjnhffpkpchaaGreat
set_option linter.unusedVariables false
open Go.RowKit Go.ChangeShapes Go.WideShapes Go.ChangeAt
theorem add_off (a : Addr) (i j : Nat) : (a.add i).add j = a.add (i + j) := by
  unfold Addr.add
  by_cases hi : i = 0 <;> by_cases hj : j = 0 <;> simp [hi, hj, Nat.add_assoc]
theorem add_pos (a : Addr) (j : Nat) (h : 0 < j) : a.add j = ⟨a.block, a.off + j, none⟩ := by
  unfold Addr.add; rw [if_neg (by omega)]
theorem pick_lt {α : Type} (p : Nat → α → Prop) : ∀ n, (∀ i, i < n → ∃ t, p i t) → ∃ l : List α, l.length = n ∧ ∀ i t, l[i]? = some t → p i t
  | 0, _ => ⟨[], rfl, fun i t h => by simp at h⟩
  | n + 1, h => by
    obtain ⟨l, hl, hp⟩ := pick_lt p n fun i hi => h i (by omega)
    obtain ⟨t, ht⟩ := h n (by omega)
    refine ⟨l ++ [t], by simp [hl], fun i u hu => ?_⟩
    by_cases hi : i < n
    · rw [List.getElem?_append_left (by omega)] at hu; exact hp i u hu
    · have e : i = n := by
        have := (List.getElem?_eq_some_iff.1 hu).1
        simp at this
        omega
      subst e
      rw [List.getElem?_append_right (by omega), hl] at hu
      simp at hu
      subst hu
      exact ht
theorem one_le {H : Type} (d : DataW H) : 1 ≤ Rows.uptoBulk d := by
  cases d with
  | lit l => cases l <;> simp [Rows.uptoBulk]
  | nil => simp [Rows.uptoBulk]
  | ptr d => simp [Rows.uptoBulk]
  | slice elems spare => simp [Rows.uptoBulk]
  | agg parts => simp [Rows.uptoBulk]
  | iface t d => simp [Rows.uptoBulk]
  | map entries => simp [Rows.uptoBulk]
  | held h => simp [Rows.uptoBulk]
theorem elem_le {H : Type} : ∀ {l : List (DataW H × List MemPlace)} {i : Nat} {y : DataW H × List MemPlace}, l[i]? = some y → Rows.uptoBulk y.1 ≤ Rows.uptoBulkAll (l.map (·.1))
  | [], i, y, h => by simp at h
  | a :: l, 0, y, h => by
    simp at h
    subst h
    simp only [List.map_cons, Rows.uptoBulkAll]
    omega
  | a :: l, i + 1, y, h => by
    have := elem_le (l := l) (i := i) (y := y) (by simpa using h)
    simp only [List.map_cons, Rows.uptoBulkAll]
    omega
theorem len_le {H : Type} : ∀ l : List (DataW H × List MemPlace), l.length ≤ Rows.uptoBulkAll (l.map (·.1))
  | [] => by simp [Rows.uptoBulkAll]
  | a :: l => by
    have := len_le l
    have := one_le a.1
    simp only [List.map_cons, Rows.uptoBulkAll, List.length_cons]
    omega
section
variable {H : Type} {enc : TypeId × Value → H} {w : World} {base : Nat} {spare : Nat → Bool} {held : Bool}
/-- A slice, as it is read. -/
theorem rd_slice {fuel : Nat} {t e : TypeId} {v : Value} {x : DataW H × List MemPlace} (ht : Tryz.prog.underlying t = some (.slice e)) (k : Nat) (hk : Tryz.prog.cellsOf e = k) (h : DataW.trod enc Tryz.prog w base spare held fuel t [v] = some x) :
    v = .slice none 0 0 ∨ ∃ a len cap m, fuel = m + 1 ∧ v = .slice (some a) len cap ∧ len + 1 ≤ Rows.uptoBulk x.1 ∧ ∀ i, i < len → ∃ cs y, (∀ j, j < k → w.cell? (a.add (i * k + j)) = cs[j]?) ∧ cs.length = k ∧ DataW.trod enc Tryz.prog w base spare held m e cs = some y ∧ Rows.uptoBulk y.1 + 1 ≤ Rows.uptoBulk x.1 := by
  rcases DataW.trod_slice ht h with ⟨e1, _⟩ | ⟨a, len, cap, elems, rest, n, rfl, hc, hx, hb, hl, hm, hel, he, _⟩
  · simp at e1
    exact .inl e1
  · simp at hc
    refine .inr ⟨a, len, cap, n, rfl, hc, ?_, fun i hi => ?_⟩
    · have := len_le elems
      rw [hx]
      simp only [Rows.uptoBulk]
      omega
    · have q := he i hi
      have e2 : elems[i]? = some (elems[i]'(by omega)) := List.getElem?_eq_getElem _
      rw [e2, hk] at q
      obtain ⟨cs, h1, h2⟩ := Option.bind_eq_some_iff.1 q
      obtain ⟨_, hlen, g⟩ := World.cells?_some h1
      refine ⟨cs, _, fun j hj => by have := g j hj; rwa [add_off] at this, hlen, h2, ?_⟩
      have := elem_le e2
      rw [hx]
      simp only [Rows.uptoBulk]
      omega
theorem blk {a : Addr} {i : Nat} {u : Value} (h : w.cell? (a.add i) = some u) : a.block < w.heap.size := by have := block_lt_of_cell h; rwa [add_block] at this
/-- A struct, as it is read, field by field. -/
theorem rd_struct {fuel : Nat} {t : TypeId} {cs : List Value} {x : DataW H × List MemPlace} {L : List (TypeId × Nat)} (ht : Tryz.prog.underlying t = some (.struct (Tryz.prog.fieldsOf t))) (hL : ((Tryz.prog.fieldsOf t).map (fun f => (f.type, f.offset))).toList = L)
    (h : DataW.trod enc Tryz.prog w base spare held fuel t cs = some x) : ∃ (xs : List (DataW H × List MemPlace)) (m : Nat), fuel = m + 1 ∧ x.1 = .agg (xs.map (·.1)) ∧ cs.length = Tryz.prog.cellsOf t ∧ xs.length = L.length ∧ ∀ (i : Nat) (u : TypeId) (o : Nat), L[i]? = some (u, o) → DataW.trod enc Tryz.prog w base spare held m u ((cs.drop o).take (Tryz.prog.cellsOf u)) = xs[i]? := by
  obtain ⟨xs, n, e, hx, hl, hlen, hf⟩ := DataW.trod_struct ht h
  refine ⟨xs, n, e, by rw [hx], hl, by rw [hlen, ← hL]; simp, fun i u o hi => ?_⟩
  rw [← hL] at hi
  simp only [Array.toList_map, List.getElem?_map, Option.map_eq_some_iff, Array.getElem?_toList, Prod.mk.injEq] at hi
  obtain ⟨f, h1, rfl, rfl⟩ := hi
  exact hf i f h1
theorem fieldsV : ((Tryz.prog.fieldsOf 40).map (fun f => (f.type, f.offset))).toList = [(37, 0), (38, 1), (9, 2)] := by kernel_rfl
end
end Go.Proofs.YtpcjnhffpkpchaaGreat
namespace Go.Proofs.YtpcjnhffpkpchaaGreat
set_option linter.unusedVariables false
open Go.RowKit Go.ChangeShapes Go.WideShapes Go.ChangeAt
/-- A number that its kind has. -/
def wfI (k : IntKind) (n : Int) : Prop := (Lit.int k n).wf = true
/-- A text that is not too long. -/
def shT (s : ByteArray) : Prop := s.size ≤ 1048576
/-- Its numbers are of their kinds. -/
def CeOk (x : CeR) : Prop := wfI .u8 x.kd ∧ wfI .i64 x.lo ∧ wfI .i64 x.hi ∧ wfI .i64 x.mx ∧ wfI .u8 x.ik ∧ wfI .u64 x.ib ∧ shT x.is ∧ wfI .i64 x.dr ∧ shT x.ad
/-- Its numbers are of their kinds. -/
def OpOk (x : OpR) : Prop := wfI .i64 x.cd ∧ wfI .i64 x.a ∧ wfI .i64 x.b ∧ wfI .i64 x.c ∧ wfI .i64 x.d ∧ wfI .i64 x.lo ∧ wfI .i64 x.hi ∧ wfI .u8 x.vk ∧ wfI .u64 x.vb ∧ shT x.vs
/-- Its numbers are of their kinds. -/
def LpOk (x : LpR) : Prop := wfI .i64 x.hd ∧ wfI .i64 x.en ∧ wfI .i64 x.tm
def FlOk (f : FlR) : Prop := shT f.nm ∧ wfI .i64 f.wh ∧ wfI .i64 f.ce ∧ wfI .i64 f.ba ∧ wfI .i64 f.rg ∧ wfI .i64 f.sl ∧ (∀ o ∈ f.os, OpOk o) ∧ (∀ o ∈ f.ls, LpOk o) ∧ f.os.length ≤ 1048576 ∧ f.ls.length ≤ 1048576
def JbOk (j : JbR) : Prop := shT j.nm ∧ wfI .i64 j.iv ∧ wfI .i64 j.sg ∧ wfI .i64 j.pr ∧ wfI .i64 j.bd ∧ (∀ o ∈ j.cs, wfI .i64 o) ∧ (∀ o ∈ j.bs, wfI .i64 o) ∧ j.cs.length ≤ 1048576 ∧ j.bs.length ≤ 1048576
def ImOk (m : ImR) : Prop := shT m.nm ∧ (∀ c ∈ m.cs, CeOk c) ∧ (∀ f ∈ m.fs, FlOk f) ∧ (∀ j ∈ m.js, JbOk j) ∧ m.cs.length ≤ 1048576 ∧ m.fs.length ≤ 1048576 ∧ m.js.length ≤ 1048576
theorem RwF.each {α : Type} {n : Nat} {P : α → List Value → Prop} {S : Nat → Prop} {w : World} {x : Option Addr} {l : List α} (h : RwF n P S w x l) : ∀ e ∈ l, ∃ vs, P e vs := by
  intro e he
  cases x with
  | none => rw [h.2.1 rfl] at he; cases he
  | some a =>
    obtain ⟨i, hi⟩ := List.mem_iff_getElem?.1 he
    obtain ⟨_, vs, hp, _⟩ := h.2.2 a rfl i e hi
    exact ⟨vs, hp⟩
section
variable {H : Type} {enc : TypeId × Value → H} {w : World} {base : Nat} {spare : Nat → Bool} {held : Bool}
theorem rd_rows {α : Type} {P : α → List Value → Prop} {fuel : Nat} {t e : TypeId} {v : Value} {x : DataW H × List MemPlace} (ht : Tryz.prog.underlying t = some (.slice e)) (k : Nat) (k0 : 0 < k) (hk : Tryz.prog.cellsOf e = k)
    (hR : ∀ (m : Nat) cs (y : DataW H × List MemPlace), DataW.trod enc Tryz.prog w base spare held m e cs = some y → cs.length = k → Rows.uptoBulk y.1 ≤ 1048576 → ∃ r, P r cs)
    (h : DataW.trod enc Tryz.prog w base spare held fuel t [v] = some x) (hb : Rows.uptoBulk x.1 ≤ 1048576) : ∃ a l c, v = .slice a (List.length l) c ∧ RwF k P (fun b => b < w.heap.size) w a l ∧ l.length ≤ 1048576 := by
  rcases rd_slice ht k hk h with rfl | ⟨a, len, cap, m, hm, rfl, hl, hi⟩
  · exact ⟨none, [], 0, rfl, RwF.nil _ _ _ _, Nat.zero_le _⟩
  · obtain ⟨l, hn, hp⟩ := pick_lt (fun i (r : α) => a.block < w.heap.size ∧ ∃ vs, P r vs ∧ CsAt w (a.add (i * k)) vs) len fun i hlt => by
      obtain ⟨cs, y, g, hc, ht, hy⟩ := hi i hlt
      obtain ⟨r, hr⟩ := hR m cs y ht hc (by omega)
      have cc : CsAt w (a.add (i * k)) cs := fun j u hu => by
        have lj : j < k := by have := (List.getElem?_eq_some_iff.1 hu).1; omega
        rw [ad_off, g j lj, hu]
      refine ⟨r, ?_, cs, hr, cc⟩
      have c0 := cc 0 (cs[0]'(by omega)) (List.getElem?_eq_getElem _)
      have := block_lt_of_cell c0
      rwa [add_block, add_block] at this
    refine ⟨some a, l, cap, by rw [hn], ⟨by show l.length < _; omega, fun e => (by cases e), fun b e i s hs => ?_⟩, by omega⟩
    cases e
    exact hp i s hs
theorem rd_int {fuel : Nat} {cs : List Value} {y : DataW H × List MemPlace} (h : DataW.trod enc Tryz.prog w base spare held fuel 3 cs = some y) : ∃ z, cs = [.int .i64 z] ∧ wfI .i64 z := by
  obtain ⟨z, e, _, q⟩ := DataW.trod_int Tryz.underlying3 h
  exact ⟨z, e, q⟩
theorem rd_u64 {fuel : Nat} {cs : List Value} {y : DataW H × List MemPlace} (h : DataW.trod enc Tryz.prog w base spare held fuel 38 cs = some y) : ∃ z, cs = [.int .u64 z] ∧ wfI .u64 z := by
  obtain ⟨z, e, _, q⟩ := DataW.trod_int Tryz.underlying38 h
  exact ⟨z, e, q⟩
theorem rd_kind {fuel : Nat} {cs : List Value} {y : DataW H × List MemPlace} (h : DataW.trod enc Tryz.prog w base spare held fuel 37 cs = some y) : ∃ z, cs = [.int .u8 z] ∧ wfI .u8 z := by
  obtain ⟨z, e, _, q⟩ := DataW.trod_int Tryz.underlying37 h
  exact ⟨z, e, q⟩
theorem rd_str {fuel : Nat} {cs : List Value} {y : DataW H × List MemPlace} (h : DataW.trod enc Tryz.prog w base spare held fuel 9 cs = some y) (hb : Rows.uptoBulk y.1 ≤ 1048576) : ∃ z, cs = [.string z] ∧ shT z := by
  obtain ⟨z, e, rfl, _⟩ := DataW.trod_string Tryz.underlying9 h
  refine ⟨z, e, ?_⟩
  simp only [Rows.uptoBulk] at hb
  have : z.data.toList.length = z.size := Array.length_toList
  unfold shT
  omega
theorem rd_bool {fuel : Nat} {cs : List Value} {y : DataW H × List MemPlace} (h : DataW.trod enc Tryz.prog w base spare held fuel 4 cs = some y) : ∃ z, cs = [.bool z] := by
  obtain ⟨z, e, _⟩ := DataW.trod_bool Tryz.underlying4 h
  exact ⟨z, e⟩
set_option maxRecDepth 20000 in
theorem rd_val {fuel : Nat} {c0 c1 c2 : Value} {y : DataW H × List MemPlace} (h : DataW.trod enc Tryz.prog w base spare held fuel 40 [c0, c1, c2] = some y) (hb : Rows.uptoBulk y.1 ≤ 1048576) : ∃ k b s, c0 = .int .u8 k ∧ c1 = .int .u64 b ∧ c2 = .string s ∧ wfI .u8 k ∧ wfI .u64 b ∧ shT s := by
  obtain ⟨xs, m, _, hx, _, hl, hf⟩ := rd_struct (by kernel_rfl) fieldsV h
  match xs, hl with
  | [u0, u1, u2], _ =>
    have j0 : DataW.trod enc Tryz.prog w base spare held m 37 [c0] = some u0 := hf 0 _ _ rfl
    have j1 : DataW.trod enc Tryz.prog w base spare held m 38 [c1] = some u1 := hf 1 _ _ rfl
    have j2 : DataW.trod enc Tryz.prog w base spare held m 9 [c2] = some u2 := hf 2 _ _ rfl
    simp only [hx, List.map_cons, List.map_nil, Rows.uptoBulk, Rows.uptoBulkAll] at hb
    obtain ⟨z0, e0, q0⟩ := rd_kind j0
    obtain ⟨z1, e1, q1⟩ := rd_u64 j1
    obtain ⟨z2, e2, q2⟩ := rd_str j2 (by omega)
    simp only [List.cons.injEq, and_true] at e0 e1 e2
    exact ⟨z0, z1, z2, e0, e1, e2, q0, q1, q2⟩
theorem fieldsCei : ((Tryz.prog.fieldsOf 42).map (fun f => (f.type, f.offset))).toList = [(37, 0), (4, 1), (3, 2), (3, 3), (3, 4), (40, 5), (4, 8), (3, 9), (9, 10)] := by kernel_rfl
set_option maxRecDepth 100000 in
theorem rd_Cei {fuel : Nat} {cs : List Value} {y : DataW H × List MemPlace} (h : DataW.trod enc Tryz.prog w base spare held fuel 42 cs = some y) (hn : cs.length = 11) (hb : Rows.uptoBulk y.1 ≤ 1048576) : ∃ r, cs = ceC r ∧ CeOk r := by
  obtain ⟨xs, m2, hm2, hx, _, hxl, hf⟩ := rd_struct (by kernel_rfl) fieldsCei h
  match cs, hn with
  | [c0, c1, c2, c3, c4, c5, c6, c7, c8, c9, c10], _ =>
    match xs, hxl with
    | [y0, y1, y2, y3, y4, y5, y6, y7, y8], _ =>
      have k0 : DataW.trod enc Tryz.prog w base spare held m2 37 [c0] = some y0 := hf 0 _ _ rfl
      have k1 : DataW.trod enc Tryz.prog w base spare held m2 4 [c1] = some y1 := hf 1 _ _ rfl
      have k2 : DataW.trod enc Tryz.prog w base spare held m2 3 [c2] = some y2 := hf 2 _ _ rfl
      have k3 : DataW.trod enc Tryz.prog w base spare held m2 3 [c3] = some y3 := hf 3 _ _ rfl
      have k4 : DataW.trod enc Tryz.prog w base spare held m2 3 [c4] = some y4 := hf 4 _ _ rfl
      have k5 : DataW.trod enc Tryz.prog w base spare held m2 40 [c5, c6, c7] = some y5 := hf 5 _ _ rfl
      have k6 : DataW.trod enc Tryz.prog w base spare held m2 4 [c8] = some y6 := hf 6 _ _ rfl
      have k7 : DataW.trod enc Tryz.prog w base spare held m2 3 [c9] = some y7 := hf 7 _ _ rfl
      have k8 : DataW.trod enc Tryz.prog w base spare held m2 9 [c10] = some y8 := hf 8 _ _ rfl
      simp only [hx, List.map_cons, List.map_nil, Rows.uptoBulk, Rows.uptoBulkAll] at hb
      obtain ⟨zkd, e0, qkd⟩ := rd_kind k0
      obtain ⟨zsb, e1⟩ := rd_bool k1
      obtain ⟨zlo, e2, qlo⟩ := rd_int k2
      obtain ⟨zhi, e3, qhi⟩ := rd_int k3
      obtain ⟨zmx, e4, qmx⟩ := rd_int k4
      obtain ⟨zik, zib, zis, rfl, rfl, rfl, qik, qib, qis⟩ := rd_val k5 (by omega)
      obtain ⟨zkp, e6⟩ := rd_bool k6
      obtain ⟨zdr, e7, qdr⟩ := rd_int k7
      obtain ⟨zad, e8, qad⟩ := rd_str k8 (by omega)
      simp only [List.cons.injEq, and_true] at e0 e1 e2 e3 e4 e6 e7 e8
      subst e0 e1 e2 e3 e4 e6 e7 e8
      exact ⟨⟨zkd, zsb, zlo, zhi, zmx, zik, zib, zis, zkp, zdr, zad⟩, rfl, qkd, qlo, qhi, qmx, qik, qib, qis, qdr, qad⟩
theorem rd_CeL {fuel : Nat} {v : Value} {x : DataW H × List MemPlace} (h : DataW.trod enc Tryz.prog w base spare held fuel 22 [v] = some x) (hb : Rows.uptoBulk x.1 ≤ 1048576) : ∃ a l c, v = .slice a (List.length l) c ∧ (RwF 11 (Is ceC) (fun b => b < w.heap.size) w a l ∧ ∀ e ∈ l, CeOk e) ∧ l.length ≤ 1048576 := by
  obtain ⟨a, l, c, e, hr, hl⟩ := rd_rows (P := fun e vs => vs = ceC e ∧ CeOk e) Tryz.underlying22 11 (by decide) (by kernel_rfl) (fun m cs y h1 h2 h3 => rd_Cei h1 h2 h3) h hb
  exact ⟨a, l, c, e, ⟨hr.imp fun e vs _ q => q.1, fun e he => by obtain ⟨vs, q⟩ := hr.each e he; exact q.2⟩, hl⟩
theorem fieldsOpi : ((Tryz.prog.fieldsOf 86).map (fun f => (f.type, f.offset))).toList = [(3, 0), (3, 1), (3, 2), (3, 3), (3, 4), (3, 5), (3, 6), (40, 7)] := by kernel_rfl
set_option maxRecDepth 100000 in
theorem rd_Opi {fuel : Nat} {cs : List Value} {y : DataW H × List MemPlace} (h : DataW.trod enc Tryz.prog w base spare held fuel 86 cs = some y) (hn : cs.length = 10) (hb : Rows.uptoBulk y.1 ≤ 1048576) : ∃ r, cs = opC r ∧ OpOk r := by
  obtain ⟨xs, m2, hm2, hx, _, hxl, hf⟩ := rd_struct (by kernel_rfl) fieldsOpi h
  match cs, hn with
  | [c0, c1, c2, c3, c4, c5, c6, c7, c8, c9], _ =>
    match xs, hxl with
    | [y0, y1, y2, y3, y4, y5, y6, y7], _ =>
      have k0 : DataW.trod enc Tryz.prog w base spare held m2 3 [c0] = some y0 := hf 0 _ _ rfl
      have k1 : DataW.trod enc Tryz.prog w base spare held m2 3 [c1] = some y1 := hf 1 _ _ rfl
      have k2 : DataW.trod enc Tryz.prog w base spare held m2 3 [c2] = some y2 := hf 2 _ _ rfl
      have k3 : DataW.trod enc Tryz.prog w base spare held m2 3 [c3] = some y3 := hf 3 _ _ rfl
      have k4 : DataW.trod enc Tryz.prog w base spare held m2 3 [c4] = some y4 := hf 4 _ _ rfl
      have k5 : DataW.trod enc Tryz.prog w base spare held m2 3 [c5] = some y5 := hf 5 _ _ rfl
      have k6 : DataW.trod enc Tryz.prog w base spare held m2 3 [c6] = some y6 := hf 6 _ _ rfl
      have k7 : DataW.trod enc Tryz.prog w base spare held m2 40 [c7, c8, c9] = some y7 := hf 7 _ _ rfl
      simp only [hx, List.map_cons, List.map_nil, Rows.uptoBulk, Rows.uptoBulkAll] at hb
      obtain ⟨zcd, e0, qcd⟩ := rd_int k0
      obtain ⟨za, e1, qa⟩ := rd_int k1
      obtain ⟨zb, e2, qb⟩ := rd_int k2
      obtain ⟨zc, e3, qc⟩ := rd_int k3
      obtain ⟨zd, e4, qd⟩ := rd_int k4
      obtain ⟨zlo, e5, qlo⟩ := rd_int k5
      obtain ⟨zhi, e6, qhi⟩ := rd_int k6
      obtain ⟨zvk, zvb, zvs, rfl, rfl, rfl, qvk, qvb, qvs⟩ := rd_val k7 (by omega)
      simp only [List.cons.injEq, and_true] at e0 e1 e2 e3 e4 e5 e6
      subst e0 e1 e2 e3 e4 e5 e6
      exact ⟨⟨zcd, za, zb, zc, zd, zlo, zhi, zvk, zvb, zvs⟩, rfl, qcd, qa, qb, qc, qd, qlo, qhi, qvk, qvb, qvs⟩
theorem rd_OpL {fuel : Nat} {v : Value} {x : DataW H × List MemPlace} (h : DataW.trod enc Tryz.prog w base spare held fuel 61 [v] = some x) (hb : Rows.uptoBulk x.1 ≤ 1048576) : ∃ a l c, v = .slice a (List.length l) c ∧ (RwF 10 (Is opC) (fun b => b < w.heap.size) w a l ∧ ∀ e ∈ l, OpOk e) ∧ l.length ≤ 1048576 := by
  obtain ⟨a, l, c, e, hr, hl⟩ := rd_rows (P := fun e vs => vs = opC e ∧ OpOk e) Tryz.underlying61 10 (by decide) (by kernel_rfl) (fun m cs y h1 h2 h3 => rd_Opi h1 h2 h3) h hb
  exact ⟨a, l, c, e, ⟨hr.imp fun e vs _ q => q.1, fun e he => by obtain ⟨vs, q⟩ := hr.each e he; exact q.2⟩, hl⟩
theorem fieldsLpi : ((Tryz.prog.fieldsOf 99).map (fun f => (f.type, f.offset))).toList = [(3, 0), (3, 1), (3, 2)] := by kernel_rfl
set_option maxRecDepth 100000 in
theorem rd_Lpi {fuel : Nat} {cs : List Value} {y : DataW H × List MemPlace} (h : DataW.trod enc Tryz.prog w base spare held fuel 99 cs = some y) (hn : cs.length = 3) (hb : Rows.uptoBulk y.1 ≤ 1048576) : ∃ r, cs = lpC r ∧ LpOk r := by
  obtain ⟨xs, m2, hm2, hx, _, hxl, hf⟩ := rd_struct (by kernel_rfl) fieldsLpi h
  match cs, hn with
  | [c0, c1, c2], _ =>
    match xs, hxl with
    | [y0, y1, y2], _ =>
      have k0 : DataW.trod enc Tryz.prog w base spare held m2 3 [c0] = some y0 := hf 0 _ _ rfl
      have k1 : DataW.trod enc Tryz.prog w base spare held m2 3 [c1] = some y1 := hf 1 _ _ rfl
      have k2 : DataW.trod enc Tryz.prog w base spare held m2 3 [c2] = some y2 := hf 2 _ _ rfl
      simp only [hx, List.map_cons, List.map_nil, Rows.uptoBulk, Rows.uptoBulkAll] at hb
      obtain ⟨zhd, e0, qhd⟩ := rd_int k0
      obtain ⟨zen, e1, qen⟩ := rd_int k1
      obtain ⟨ztm, e2, qtm⟩ := rd_int k2
      simp only [List.cons.injEq, and_true] at e0 e1 e2
      subst e0 e1 e2
      exact ⟨⟨zhd, zen, ztm⟩, rfl, qhd, qen, qtm⟩
theorem rd_LpL {fuel : Nat} {v : Value} {x : DataW H × List MemPlace} (h : DataW.trod enc Tryz.prog w base spare held fuel 62 [v] = some x) (hb : Rows.uptoBulk x.1 ≤ 1048576) : ∃ a l c, v = .slice a (List.length l) c ∧ (RwF 3 (Is lpC) (fun b => b < w.heap.size) w a l ∧ ∀ e ∈ l, LpOk e) ∧ l.length ≤ 1048576 := by
  obtain ⟨a, l, c, e, hr, hl⟩ := rd_rows (P := fun e vs => vs = lpC e ∧ LpOk e) Tryz.underlying62 3 (by decide) (by kernel_rfl) (fun m cs y h1 h2 h3 => rd_Lpi h1 h2 h3) h hb
  exact ⟨a, l, c, e, ⟨hr.imp fun e vs _ q => q.1, fun e he => by obtain ⟨vs, q⟩ := hr.each e he; exact q.2⟩, hl⟩
theorem rd_InL {fuel : Nat} {v : Value} {x : DataW H × List MemPlace} (h : DataW.trod enc Tryz.prog w base spare held fuel 44 [v] = some x) (hb : Rows.uptoBulk x.1 ≤ 1048576) : ∃ a l c, v = .slice a (List.length l) c ∧ (RwF 1 (Is inC) (fun b => b < w.heap.size) w a l ∧ ∀ e ∈ l, wfI .i64 e) ∧ l.length ≤ 1048576 := by
  obtain ⟨a, l, c, e, hr, hl⟩ := rd_rows (P := fun e vs => vs = inC e ∧ wfI .i64 e) Tryz.underlying44 1 (by decide) (by kernel_rfl) (fun m cs y h1 h2 h3 => by obtain ⟨z, e, q⟩ := rd_int h1; exact ⟨z, e, q⟩) h hb
  exact ⟨a, l, c, e, ⟨hr.imp fun e vs _ q => q.1, fun e he => by obtain ⟨vs, q⟩ := hr.each e he; exact q.2⟩, hl⟩
theorem fieldsFli : ((Tryz.prog.fieldsOf 64).map (fun f => (f.type, f.offset))).toList = [(9, 0), (3, 1), (3, 2), (3, 3), (3, 4), (3, 5), (61, 6), (62, 7)] := by kernel_rfl
set_option maxRecDepth 100000 in
theorem rd_Fli {fuel : Nat} {cs : List Value} {y : DataW H × List MemPlace} (h : DataW.trod enc Tryz.prog w base spare held fuel 64 cs = some y) (hn : cs.length = 8) (hb : Rows.uptoBulk y.1 ≤ 1048576) : ∃ r, FlP (fun b => b < w.heap.size) w r cs ∧ FlOk r := by
  obtain ⟨xs, m2, hm2, hx, _, hxl, hf⟩ := rd_struct (by kernel_rfl) fieldsFli h
  match cs, hn with
  | [c0, c1, c2, c3, c4, c5, c6, c7], _ =>
    match xs, hxl with
    | [y0, y1, y2, y3, y4, y5, y6, y7], _ =>
      have k0 : DataW.trod enc Tryz.prog w base spare held m2 9 [c0] = some y0 := hf 0 _ _ rfl
      have k1 : DataW.trod enc Tryz.prog w base spare held m2 3 [c1] = some y1 := hf 1 _ _ rfl
      have k2 : DataW.trod enc Tryz.prog w base spare held m2 3 [c2] = some y2 := hf 2 _ _ rfl
      have k3 : DataW.trod enc Tryz.prog w base spare held m2 3 [c3] = some y3 := hf 3 _ _ rfl
      have k4 : DataW.trod enc Tryz.prog w base spare held m2 3 [c4] = some y4 := hf 4 _ _ rfl
      have k5 : DataW.trod enc Tryz.prog w base spare held m2 3 [c5] = some y5 := hf 5 _ _ rfl
      have k6 : DataW.trod enc Tryz.prog w base spare held m2 61 [c6] = some y6 := hf 6 _ _ rfl
      have k7 : DataW.trod enc Tryz.prog w base spare held m2 62 [c7] = some y7 := hf 7 _ _ rfl
      simp only [hx, List.map_cons, List.map_nil, Rows.uptoBulk, Rows.uptoBulkAll] at hb
      obtain ⟨znm, e0, qnm⟩ := rd_str k0 (by omega)
      obtain ⟨zwh, e1, qwh⟩ := rd_int k1
      obtain ⟨zce, e2, qce⟩ := rd_int k2
      obtain ⟨zba, e3, qba⟩ := rd_int k3
      obtain ⟨zrg, e4, qrg⟩ := rd_int k4
      obtain ⟨zsl, e5, qsl⟩ := rd_int k5
      obtain ⟨xos, zos, pos, rfl, qos, los⟩ := rd_OpL k6 (by omega)
      obtain ⟨xls, zls, pls, rfl, qls, lls⟩ := rd_LpL k7 (by omega)
      simp only [List.cons.injEq, and_true] at e0 e1 e2 e3 e4 e5
      subst e0 e1 e2 e3 e4 e5
      exact ⟨⟨znm, zwh, zce, zba, zrg, zsl, zos, zls⟩, ⟨xos, pos, xls, pls, rfl, qos.1, qls.1⟩, qnm, qwh, qce, qba, qrg, qsl, qos.2, qls.2, los, lls⟩
theorem fieldsJbi : ((Tryz.prog.fieldsOf 46).map (fun f => (f.type, f.offset))).toList = [(9, 0), (3, 1), (3, 2), (3, 3), (44, 4), (44, 5), (3, 6)] := by kernel_rfl
set_option maxRecDepth 100000 in
theorem rd_Jbi {fuel : Nat} {cs : List Value} {y : DataW H × List MemPlace} (h : DataW.trod enc Tryz.prog w base spare held fuel 46 cs = some y) (hn : cs.length = 7) (hb : Rows.uptoBulk y.1 ≤ 1048576) : ∃ r, JbP (fun b => b < w.heap.size) w r cs ∧ JbOk r := by
  obtain ⟨xs, m2, hm2, hx, _, hxl, hf⟩ := rd_struct (by kernel_rfl) fieldsJbi h
  match cs, hn with
  | [c0, c1, c2, c3, c4, c5, c6], _ =>
    match xs, hxl with
    | [y0, y1, y2, y3, y4, y5, y6], _ =>
      have k0 : DataW.trod enc Tryz.prog w base spare held m2 9 [c0] = some y0 := hf 0 _ _ rfl
      have k1 : DataW.trod enc Tryz.prog w base spare held m2 3 [c1] = some y1 := hf 1 _ _ rfl
      have k2 : DataW.trod enc Tryz.prog w base spare held m2 3 [c2] = some y2 := hf 2 _ _ rfl
      have k3 : DataW.trod enc Tryz.prog w base spare held m2 3 [c3] = some y3 := hf 3 _ _ rfl
      have k4 : DataW.trod enc Tryz.prog w base spare held m2 44 [c4] = some y4 := hf 4 _ _ rfl
      have k5 : DataW.trod enc Tryz.prog w base spare held m2 44 [c5] = some y5 := hf 5 _ _ rfl
      have k6 : DataW.trod enc Tryz.prog w base spare held m2 3 [c6] = some y6 := hf 6 _ _ rfl
      simp only [hx, List.map_cons, List.map_nil, Rows.uptoBulk, Rows.uptoBulkAll] at hb
      obtain ⟨znm, e0, qnm⟩ := rd_str k0 (by omega)
      obtain ⟨ziv, e1, qiv⟩ := rd_int k1
      obtain ⟨zsg, e2, qsg⟩ := rd_int k2
      obtain ⟨zpr, e3, qpr⟩ := rd_int k3
      obtain ⟨xcs, zcs, pcs, rfl, qcs, lcs⟩ := rd_InL k4 (by omega)
      obtain ⟨xbs, zbs, pbs, rfl, qbs, lbs⟩ := rd_InL k5 (by omega)
      obtain ⟨zbd, e6, qbd⟩ := rd_int k6
      simp only [List.cons.injEq, and_true] at e0 e1 e2 e3 e6
      subst e0 e1 e2 e3 e6
      exact ⟨⟨znm, ziv, zsg, zpr, zcs, zbs, zbd⟩, ⟨xcs, pcs, xbs, pbs, rfl, qcs.1, qbs.1⟩, qnm, qiv, qsg, qpr, qbd, qcs.2, qbs.2, lcs, lbs⟩
theorem rd_FlL {fuel : Nat} {v : Value} {x : DataW H × List MemPlace} (h : DataW.trod enc Tryz.prog w base spare held fuel 23 [v] = some x) (hb : Rows.uptoBulk x.1 ≤ 1048576) : ∃ a l c, v = .slice a (List.length l) c ∧ (RwF 8 (FlP (fun b => b < w.heap.size) w) (fun b => b < w.heap.size) w a l ∧ ∀ e ∈ l, FlOk e) ∧ l.length ≤ 1048576 := by
  obtain ⟨a, l, c, e, hr, hl⟩ := rd_rows (P := fun e vs => FlP (fun b => b < w.heap.size) w e vs ∧ FlOk e) Tryz.underlying23 8 (by decide) (by kernel_rfl) (fun m cs y h1 h2 h3 => rd_Fli h1 h2 h3) h hb
  exact ⟨a, l, c, e, ⟨hr.imp fun e vs _ q => q.1, fun e he => by obtain ⟨vs, q⟩ := hr.each e he; exact q.2⟩, hl⟩
theorem rd_JbL {fuel : Nat} {v : Value} {x : DataW H × List MemPlace} (h : DataW.trod enc Tryz.prog w base spare held fuel 24 [v] = some x) (hb : Rows.uptoBulk x.1 ≤ 1048576) : ∃ a l c, v = .slice a (List.length l) c ∧ (RwF 7 (JbP (fun b => b < w.heap.size) w) (fun b => b < w.heap.size) w a l ∧ ∀ e ∈ l, JbOk e) ∧ l.length ≤ 1048576 := by
  obtain ⟨a, l, c, e, hr, hl⟩ := rd_rows (P := fun e vs => JbP (fun b => b < w.heap.size) w e vs ∧ JbOk e) Tryz.underlying24 7 (by decide) (by kernel_rfl) (fun m cs y h1 h2 h3 => rd_Jbi h1 h2 h3) h hb
  exact ⟨a, l, c, e, ⟨hr.imp fun e vs _ q => q.1, fun e he => by obtain ⟨vs, q⟩ := hr.each e he; exact q.2⟩, hl⟩
theorem fieldsImi : ((Tryz.prog.fieldsOf 26).map (fun f => (f.type, f.offset))).toList = [(9, 0), (22, 1), (23, 2), (24, 3)] := by kernel_rfl
set_option maxRecDepth 100000 in
theorem rd_Imi {fuel : Nat} {cs : List Value} {y : DataW H × List MemPlace} (h : DataW.trod enc Tryz.prog w base spare held fuel 26 cs = some y) (hn : cs.length = 4) (hb : Rows.uptoBulk y.1 ≤ 1048576) : ∃ (m : ImR) (x1 x2 x3 : Option Addr) (c1 c2 c3 : Nat), cs = imC m (.slice x1 m.cs.length c1) (.slice x2 m.fs.length c2) (.slice x3 m.js.length c3) ∧ ImQ (fun b => b < w.heap.size) w m x1 x2 x3 ∧ ImOk m := by
  obtain ⟨xs, m2, hm2, hx, _, hxl, hf⟩ := rd_struct (by kernel_rfl) fieldsImi h
  match cs, hn with
  | [c0, c1, c2, c3], _ =>
    match xs, hxl with
    | [y0, y1, y2, y3], _ =>
      have k0 : DataW.trod enc Tryz.prog w base spare held m2 9 [c0] = some y0 := hf 0 _ _ rfl
      have k1 : DataW.trod enc Tryz.prog w base spare held m2 22 [c1] = some y1 := hf 1 _ _ rfl
      have k2 : DataW.trod enc Tryz.prog w base spare held m2 23 [c2] = some y2 := hf 2 _ _ rfl
      have k3 : DataW.trod enc Tryz.prog w base spare held m2 24 [c3] = some y3 := hf 3 _ _ rfl
      simp only [hx, List.map_cons, List.map_nil, Rows.uptoBulk, Rows.uptoBulkAll] at hb
      obtain ⟨znm, e0, qnm⟩ := rd_str k0 (by omega)
      obtain ⟨xcs, zcs, pcs, rfl, qcs, lcs⟩ := rd_CeL k1 (by omega)
      obtain ⟨xfs, zfs, pfs, rfl, qfs, lfs⟩ := rd_FlL k2 (by omega)
      obtain ⟨xjs, zjs, pjs, rfl, qjs, ljs⟩ := rd_JbL k3 (by omega)
      simp only [List.cons.injEq, and_true] at e0
      subst e0
      exact ⟨⟨znm, zcs, zfs, zjs⟩, xcs, xfs, xjs, pcs, pfs, pjs, rfl, ⟨qcs.1, qfs.1, qjs.1⟩, qnm, qcs.2, qfs.2, qjs.2, lcs, lfs, ljs⟩
end
end Go.Proofs.YtpcjnhffpkpchaaGreat
