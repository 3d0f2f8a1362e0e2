/- image's small functions; no statement of the seat is proved here. -/
import Derived.Test.YtpcjnhffpkpchaaGreatYa4
import Derived.Test.YtpcjnhffpkpchaaGreatFitY
import Derived.Test.YtpcjnhffpkpchaaGreatYc2
import Derived.Handy
namespace Go.Proofs.YtpcjnhffpkpchaaGreat
set_option linter.unusedVariables false
open Go.RowKit
theorem wf_i64 {n : Int} (h : wfI .i64 n) : -9223372036854775808 ≤ n ∧ n < 9223372036854775808 := by
  have := h
  unfold wfI Lit.wf at this
  simp only [Bool.and_eq_true, decide_eq_true_eq] at this
  have a : (IntKind.i64).min = -9223372036854775808 := by decide
  have b : (IntKind.i64).max = 9223372036854775807 := by decide
  rw [a, b] at this
  omega
theorem wf_u8 {n : Int} (h : wfI .u8 n) : 0 ≤ n ∧ n < 256 := by
  have := h
  unfold wfI Lit.wf at this
  simp only [Bool.and_eq_true, decide_eq_true_eq] at this
  have a : (IntKind.u8).min = 0 := by decide
  have b : (IntKind.u8).max = 255 := by decide
  rw [a, b] at this
  omega
theorem wf_u64 {n : Int} (h : wfI .u64 n) : 0 ≤ n ∧ n < 18446744073709551616 := by
  have := h
  unfold wfI Lit.wf at this
  simp only [Bool.and_eq_true, decide_eq_true_eq] at this
  have a : (IntKind.u64).min = 0 := by decide
  have b : (IntKind.u64).max = 18446744073709551615 := by decide
  rw [a, b] at this
  omega
theorem sh_max {s : ByteArray} (h : shT s) : s.size ≤ maxLen := Nat.le_trans h (by decide)
/-- Does a number lie between two? -/
def inB (a b x : Int) : Bool := decide (a ≤ x) && decide (x ≤ b)
/-- How many bits of an address a kind takes. -/
def wdK (k : Int) : Int := if k = 1 then 1 else if k = 2 ∨ k = 6 ∨ k = 10 then 8 else if k = 3 ∨ k = 7 ∨ k = 11 then 16 else if k = 4 ∨ k = 8 ∨ k = 12 then 32 else if k = 5 ∨ k = 9 ∨ k = 13 then 64 else 0
/-- Is a text empty? -/
def emB (s : ByteArray) : Bool := s.toList.isEmpty
def bdB (c : CeR) : Bool := (if c.sb = true then inB 2 9 c.kd && decide (c.lo ≤ c.hi) else decide (c.lo = 0) && decide (c.hi = 0)) && (if c.kd = 19 then inB 0 254 c.mx else decide (c.mx = 0))
def nwB (k b : Int) (s : ByteArray) : Bool := decide (k = 20) && decide (b = 0) && emB s
def bgB (c : CeR) : Bool := if c.kd = 20 then nwB c.ik c.ib c.is else decide (fitsF c.ik c.ib c.is c.kd c.sb c.lo c.hi c.mx = 0)
/-- An address of a direction, of so many bits. -/
def adB (s : ByteArray) (d n : Int) : Bool := addrB s && decide (dirN (byt s 1) = d) && decide (bitN (byt s 2) = n)
def liB (c : CeR) : Bool := inB 0 2 c.dr && (if emB c.ad = true then decide (c.dr = 0) else adB c.ad c.dr (wdK c.kd) && !c.sb)
/-- May a cell be, others aside? -/
def ceB (c : CeR) : Bool := inB 1 20 c.kd && !(decide (c.kd = 20) && c.kp) && bdB c && bgB c && liB c
/-- May the cell number i be? -/
def ceAt (l : List CeR) (i : Nat) : Bool := match l[i]? with
  | some c => ceB c && (emB c.ad || (l.take i).all (fun x => decide (¬ x.ad = c.ad)))
  | none => true
/-- The spans of an instruction's four fields. -/
def spO (cd rg sl n cs : Int) : (Int × Int) × (Int × Int) × (Int × Int) × (Int × Int) :=
  if cd = 1 ∨ cd = 12 ∨ cd = 14 ∨ cd = 15 then ((0, rg), (0, 0), (0, 0), (0, 0))
  else if cd = 2 then ((0, rg), (0, rg), (0, 0), (0, 0))
  else if cd = 3 ∨ cd = 4 ∨ cd = 7 then ((0, rg), (1, 3), (0, 4096), (0, 0))
  else if cd = 5 ∨ cd = 6 ∨ cd = 8 then ((0, rg), (1, 3), (0, 4096), (0, rg))
  else if cd = 9 then ((0, rg), (0, rg), (0, rg), (1, 14))
  else if cd = 10 then ((0, rg), (0, rg), (0, 0), (15, 16))
  else if cd = 11 then ((0, rg), (0, rg), (0, 0), (1, 19))
  else if cd = 13 then ((0, rg), (0, 0), (0, 16), (0, 255))
  else if cd = 16 then ((0, 0), (0, n), (0, 0), (0, 0))
  else if cd = 17 then ((0, rg), (0, n), (0, 0), (0, 0))
  else if cd = 18 then ((0, 0), (0, cs), (1, 3), (0, 4096))
  else if cd = 19 then ((0, 0), (1, 10), (1, 3), (0, 4096))
  else if cd = 20 then ((1, 10), (0, 0), (0, 0), (0, 0))
  else if cd = 22 ∨ cd = 23 then ((0, rg), (0, sl), (0, 0), (0, 0))
  else ((0, 0), (0, 0), (0, 0), (0, 0))
/-- May an instruction's bounds be? -/
def rcB (o : OpR) : Bool :=
  if o.cd = 5 ∨ o.cd = 6 ∨ o.cd = 8 then decide (o.lo ≤ o.hi) && decide (o.hi - o.lo < 256)
  else if o.cd = 14 then decide (o.lo ≤ o.hi)
  else if o.cd = 15 then decide (o.lo = 0) && inB 0 254 o.hi
  else decide (o.lo = 0) && decide (o.hi = 0)
/-- May an instruction's value be? -/
def hdB (o : OpR) : Bool := if o.cd = 1 then may3 o.vk o.vb o.vs || nwB o.vk o.vb o.vs else decide (o.vk = 0) && decide (o.vb = 0) && emB o.vs
def spB (s : (Int × Int) × (Int × Int) × (Int × Int) × (Int × Int)) (o : OpR) : Bool := inB s.1.1 s.1.2 o.a && inB s.2.1.1 s.2.1.2 o.b && inB s.2.2.1.1 s.2.2.1.2 o.c && inB s.2.2.2.1 s.2.2.2.2 o.d
/-- May an instruction of a code be, beside so many codes? -/
def opB (o : OpR) (rg sl n cs : Int) : Bool := inB 1 23 o.cd && spB (spO o.cd (rg - 1) (sl - 1) (n - 1) (cs - 1)) o && rcB o && hdB o
/-- So many cells from a base on. -/
def ftB (ba sz n : Int) : Bool := decide (0 ≤ ba) && decide (ba ≤ n - sz)
def stB (f : FlR) (n : Int) : Bool := inB 1 3 f.wh && inB 0 4096 f.ce && (decide (f.ba = -1) || (decide (f.wh = 1) && ftB f.ba f.ce n)) && inB 0 8 f.rg && inB 0 1024 f.sl
def enB (f : FlR) : Bool := match f.os.getLast? with
  | some o => decide (o.cd = 16 ∨ o.cd = 20 ∨ o.cd = 21)
  | none => false
def lpB (n : Int) (l : LpR) : Bool := decide (0 ≤ l.hd) && decide (l.hd ≤ l.en) && decide (l.en ≤ n) && inB 0 65536 l.tm
def lsB (f : FlR) : Bool := f.ls.all (lpB f.os.length)
def coB (f : FlR) (n : Int) : Bool := stB f n && enB f && lsB f
/-- The first of so many that is not so. -/
def fstN (f : Nat → Bool) (n : Nat) : Option Nat := (List.range n).find? (fun i => !f i)
theorem fstN_some {f : Nat → Bool} {n k : Nat} (hk : k < n) (h : ∀ j, j < k → f j = true) (hf : f k = false) : fstN f n = some k := by
  unfold fstN
  rw [List.find?_range_eq_some]
  refine ⟨by simp [hf], List.mem_range.2 hk, fun j hj => by simp [h j hj]⟩
theorem fstN_none {f : Nat → Bool} {n : Nat} (h : ∀ j, j < n → f j = true) : fstN f n = none := by
  unfold fstN
  rw [List.find?_range_eq_none]
  exact fun j hj => by simp [h j hj]
/-- How many instructions the first codes have. -/
def totN (l : List FlR) (i : Nat) : Nat := ((l.take (i + 1)).map (fun f => f.os.length)).sum
/-- May the instruction number p of a code be? -/
def opAt (f : FlR) (cs : Int) (p : Nat) : Bool := match f.os[p]? with
  | some o => opB o f.rg f.sl f.os.length cs
  | none => true
/-- What is wrong with the code number i: a place and an error; the error 0: nothing. -/
def flAt (m : ImR) (i : Nat) : Int × Int := match m.fs[i]? with
  | none => (0, 0)
  | some f => if nameB f.nm = false then (0, 6) else if coB f m.cs.length = false then (0, 202) else if 16384 < totN m.fs i ∨ 16384 < f.ls.length then (0, 4)
    else match fstN (opAt f m.fs.length) f.os.length with
    | some p => (p, 202)
    | none => (0, 0)
/-- May the runs of a task be? -/
def runB (m : ImR) (c b : Int) : Bool := decide (0 ≤ c) && decide (c < m.fs.length) && (match m.fs[c.toNat]? with
  | some f => decide (f.wh = 3) && ftB b f.ce m.cs.length
  | none => false)
def trB (m : ImR) (j : JbR) : Bool := (decide (j.sg = -1) || (decide (0 ≤ j.sg) && decide (j.sg < m.cs.length) && (match m.cs[j.sg.toNat]? with
  | some c => decide (c.kd = 1)
  | none => false))) && decide (0 ≤ j.iv) && inB 0 65535 j.pr && inB 0 1048576 j.bd
def rnB (m : ImR) (j : JbR) : Bool := decide (j.cs.length = j.bs.length) && decide (j.cs.length ≤ 32) && (List.range j.cs.length).all (fun i => runB m (j.cs.getD i 0) (j.bs.getD i 0))
/-- What is wrong with the task number i; 0: nothing. -/
def jbAt (m : ImR) (i : Nat) : Int := match m.js[i]? with
  | none => 0
  | some j => if ((m.js.take i).any (fun x => decide (x.nm = j.nm)) || !nameB j.nm) = true then 6 else if (trB m j && rnB m j) = true then 0 else 204
/-- What Check answers: two numbers and an error. -/
def chk (m : ImR) : Int × Int × Int :=
  if nameB m.nm = false then (0, 0, 6) else if 4096 < m.cs.length then (4096, 0, 4) else if 64 < m.fs.length then (64, 0, 4) else if 16 < m.js.length then (16, 0, 4)
  else match fstN (ceAt m.cs) m.cs.length with
  | some i => (i, 0, 203)
  | none => match fstN (fun i => decide ((flAt m i).2 = 0)) m.fs.length with
    | some i => (i, (flAt m i).1, (flAt m i).2)
    | none => match fstN (fun i => decide (jbAt m i = 0)) m.js.length with
      | some i => (i, 0, jbAt m i)
      | none => (0, 0, 0)
end Go.Proofs.YtpcjnhffpkpchaaGreat
namespace Go.Proofs.YtpcjnhffpkpchaaGreat
set_option linter.unusedVariables false
open Go.RowKit
set_option maxHeartbeats 1000000 in
theorem has_of (a b x : Int) (w : World) : Calls Tryz.prog 87 #[.agg #[.int .i64 a, .int .i64 b], .int .i64 x] w fun e w' => e = .returned (.bool (inB a b x)) ∧ Below w.heap.size w w' := by
  unfold inB
  by_cases c : a ≤ x
  · by_cases d : x ≤ b
    · rw [decide_eq_true c, decide_eq_true d]
      go_enter Tryz.func87, Tryz.ntmps87
      go_wp2
      go_ret
      exact ⟨rfl, by go_grown⟩
    · rw [decide_eq_true c, decide_eq_false d]
      go_enter Tryz.func87, Tryz.ntmps87
      go_wp2
      go_ret
      exact ⟨rfl, by go_grown⟩
  · rw [decide_eq_false c]
    go_enter Tryz.func87, Tryz.ntmps87
    go_wp2
    go_ret
    exact ⟨rfl, by go_grown⟩
set_option maxHeartbeats 1000000 in
theorem below_of (n : Int) (h : -9223372036854775808 < n ∧ n < 9223372036854775808) (w : World) : Calls Tryz.prog 92 #[.int .i64 n] w fun e w' => e = .returned (.agg #[.int .i64 0, .int .i64 (n - 1)]) ∧ Below w.heap.size w w' := by
  have e : wrap64 (n - 1) = n - 1 := by unfold wrap64; omega
  go_enter Tryz.func92, Tryz.ntmps92
  go_wp2
  exact bodyPost_ret (v := .agg #[.int .i64 0, .int .i64 (n - 1)]) (by simp [results, Tryz.results92, go_sem]) rfl ⟨rfl, by go_grown⟩
set_option maxHeartbeats 1000000 in
theorem fits_of (ba sz n : Int) (w : World) (h : 0 ≤ sz ∧ sz ≤ 4096) (hn : 0 ≤ n ∧ n ≤ 4611686018427387904) : Calls Tryz.prog 88 #[.int .i64 ba, .int .i64 sz, .int .i64 n] w fun e w' => e = .returned (.bool (ftB ba sz n)) ∧ w' = w := by
  unfold ftB
  have e : wrap64 (n - sz) = n - sz := by unfold wrap64; omega
  by_cases c : 0 ≤ ba
  · by_cases d : ba ≤ n - sz
    · rw [decide_eq_true c, decide_eq_true d]
      go_enter Tryz.func88, Tryz.ntmps88
      go_wp2
      go_ret
      exact ⟨rfl, rfl⟩
    · rw [decide_eq_true c, decide_eq_false d]
      go_enter Tryz.func88, Tryz.ntmps88
      go_wp2
      go_ret
      exact ⟨rfl, rfl⟩
  · rw [decide_eq_false c]
    go_enter Tryz.func88, Tryz.ntmps88
    go_wp2
    go_ret
    exact ⟨rfl, rfl⟩
set_option maxHeartbeats 1000000 in
theorem isIntI_of (k : Int) (w : World) : Calls Tryz.prog 101 #[.int .u8 k] w fun e w' => e = .returned (.bool (inB 2 9 k)) ∧ w' = w := by
  unfold inB
  by_cases c : 2 ≤ k
  · by_cases d : k ≤ 9
    · rw [decide_eq_true c, decide_eq_true d]
      go_enter Tryz.func101, Tryz.ntmps101
      go_wp2
      go_ret
      exact ⟨rfl, rfl⟩
    · rw [decide_eq_true c, decide_eq_false d]
      go_enter Tryz.func101, Tryz.ntmps101
      go_wp2
      go_ret
      exact ⟨rfl, rfl⟩
  · rw [decide_eq_false c]
    go_enter Tryz.func101, Tryz.ntmps101
    go_wp2
    go_ret
    exact ⟨rfl, rfl⟩
set_option maxHeartbeats 1000000 in
theorem nowhere_of (w : World) : Calls Tryz.prog 102 #[] w fun e w' => e = .returned (.agg #[.int .u8 20, .int .u64 0, .string ⟨#[]⟩]) ∧ Below w.heap.size w w' := by
  go_enter Tryz.func102, Tryz.ntmps102
  go_wp2
  exact bodyPost_ret (v := .agg #[.int .u8 20, .int .u64 0, .string ⟨#[]⟩]) (by simp [results, Tryz.results102, go_sem]) rfl ⟨rfl, by go_grown⟩
theorem kinds20 (k : Int) (h : 1 ≤ k ∧ k ≤ 20) : k = 1 ∨ k = 2 ∨ k = 3 ∨ k = 4 ∨ k = 5 ∨ k = 6 ∨ k = 7 ∨ k = 8 ∨ k = 9 ∨ k = 10 ∨ k = 11 ∨ k = 12 ∨ k = 13 ∨ k = 14 ∨ k = 15 ∨ k = 16 ∨ k = 17 ∨ k = 18 ∨ k = 19 ∨ k = 20 := by omega
set_option maxHeartbeats 4000000 in
theorem widthI_of (k : Int) (h : 1 ≤ k ∧ k ≤ 20) (w : World) : Calls Tryz.prog 105 #[.int .u8 k] w fun e w' => e = .returned (.int .i64 (wdK k)) ∧ w' = w := by
  rcases kinds20 k h with rfl | rfl | rfl | rfl | rfl | rfl | rfl | rfl | rfl | rfl | rfl | rfl | rfl | rfl | rfl | rfl | rfl | rfl | rfl | rfl
  all_goals
    go_enter Tryz.func105, Tryz.ntmps105
    go_wp2
    go_ret
    exact ⟨rfl, rfl⟩
end Go.Proofs.YtpcjnhffpkpchaaGreat
