/- A timer's ticks one behind the other in memory, and one more ahead of them; no statement of the seat is proved here. -/
import Derived.Test.YtjnegbjgogkamaaDoorBlkM
import Derived.Test.YtjnegbjgogkamaaDoorBlkL
import Derived.Laws.AppendOwnNone
namespace Go.Proofs.YtjnegbjgogkamaaDoor
set_option linter.unusedVariables false
open Go.RowKit
/-- What is appended may be nil. -/
theorem wpList_app {P : Program} (w : World) {ops : Array Oper} {rest : List Oper} {o : Oper} {a : Act} {Q : Exit → Act → World → Prop} (hgd : o.guard = none) (s x : Operand) (t : TypeId)
    (ho : o.op = .call { callee := .builtin .append, args := #[s, x], argTypes := #[t, t] })
    (base : Nat) (e : TypeId) (i : TypeInfo) (z : Value) (size bytes : Nat) (ht : P.underlying t = some (.slice e)) (hi : P.info? e = some i) (hz : i.zero = some z)
    (hsize : i.size = size) (hby : i.bytes = bytes) (hzs : z.cells.size = size) (hsz : 0 < size)
    (v : Value) (n : Nat) (xs : List Value) (hs : a.eval s = v) (hown : w.ownsRow base e size v n xs)
    (ad : Option Addr) (m c : Nat) (news : List Value) (hx : a.eval x = .slice ad m c) (h0 : ad = none → m = 0 ∧ c = 0) (hl : news.length = m * size) (hnews : ∀ ad', ad = some ad' → ∀ j u, news[j]? = some u → w.cell? (ad'.add j) = some u) (h1 : ∀ u ∈ news, u.oneCell' = true)
    (h63 : n + m ≤ maxLen) (hbytes : (n + m) * bytes ≤ 140737488355328) (hbase : base ≤ w.heap.size)
    (h : ∀ v' w', w'.ownsRow base e size v' (n + m) (xs ++ news) → w.grownBy w' v.ownBlock → wpList P ops Q rest (a.put o.dst v') w') : wpList P ops Q (o :: rest) a w := by
  cases ad with
  | some ad' => exact wpList_append_own w hgd s x t ho base e i z size bytes ht hi hz hsize hby hzs hsz v n xs hs hown ad' m c news hx hl (hnews ad' rfl) h1 h63 hbytes hbase (fun v' w' a b _ => h v' w' a b)
  | none =>
    obtain ⟨rfl, rfl⟩ := h0 rfl
    have e0 : news = [] := List.length_eq_zero_iff.1 (by simpa using hl)
    subst e0
    refine wpList_append_own_none hgd s x t ho base e i size ht hi v n xs hs hown hx ?_
    exact h v w (by simpa using hown) ⟨rfl, rfl, rfl, Nat.le_refl _, fun _ _ _ => rfl⟩
/-- A tick: the input, and how far time has gone on. -/
structure Tk where
  i : Bool
  p : Int
def tkL (n : Nat) (f : Nat → Tk) : List Value := (List.range n).flatMap fun i => [.bool (f i).i, .int .i64 (f i).p]
theorem tkL_succ (n : Nat) (f : Nat → Tk) : tkL (n + 1) f = tkL n f ++ [.bool (f n).i, .int .i64 (f n).p] := by
  unfold tkL; rw [List.range_succ, List.flatMap_append]; simp
theorem tkL_len (n : Nat) (f : Nat → Tk) : (tkL n f).length = n * 2 := by
  induction n with
  | zero => rfl
  | succ n ih => rw [tkL_succ, List.length_append, ih]; simp; omega
theorem tkL_at (n : Nat) (f : Nat → Tk) (i : Nat) (hi : i < n) : (tkL n f)[i * 2]? = some (.bool (f i).i) ∧ (tkL n f)[i * 2 + 1]? = some (.int .i64 (f i).p) := by
  induction n with
  | zero => omega
  | succ n ih =>
    have l := tkL_len n f
    rw [tkL_succ]
    by_cases h : i < n
    · obtain ⟨a, b⟩ := ih h
      exact ⟨by rw [List.getElem?_append_left (by omega)]; exact a, by rw [List.getElem?_append_left (by omega)]; exact b⟩
    · have e : i = n := by omega
      subst e
      exact ⟨by rw [List.getElem?_append_right (by omega), l]; simp, by rw [List.getElem?_append_right (by omega), l]; simp⟩
theorem tkL_one (n : Nat) (f : Nat → Tk) : ∀ u ∈ tkL n f, u.oneCell' = true := by
  intro u hu
  unfold tkL at hu
  obtain ⟨i, _, h⟩ := List.mem_flatMap.1 hu
  simp at h
  rcases h with rfl | rfl <;> rfl
/-- One tick ahead of the others. -/
def tkC (f : Nat → Tk) (i : Nat) : Tk := if i = 0 then ⟨true, 0⟩ else f (i - 1)
theorem tkL_cons (n : Nat) (f : Nat → Tk) : [.bool true, .int .i64 0] ++ tkL n f = tkL (n + 1) (tkC f) := by
  induction n with
  | zero => rfl
  | succ n ih => rw [tkL_succ n f, ← List.append_assoc, ih, tkL_succ (n + 1) (tkC f)]; rfl
/-- Ticks in memory. -/
def TkAt (w : World) (ad : Option Addr) (n : Nat) (f : Nat → Tk) : Prop := ∀ a, ad = some a → ∀ j u, (tkL n f)[j]? = some u → w.cell? (a.add j) = some u
theorem TkAt.below {w w' : World} {ad : Option Addr} {n : Nat} {f : Nat → Tk} (h : TkAt w ad n f) (hb : Below w.heap.size w w') : TkAt w' ad n f := by
  intro a e j u hu
  have c := h a e j u hu
  rw [hb.cell (block_lt_of_cell c)]; exact c
/-- Ticks in a row that the call made. -/
def TRow (w : World) (g n : Nat) (f : Nat → Tk) : Prop := ∀ i, i < n → w.cell? ⟨g, i * 2, none⟩ = some (.bool (f i).i) ∧ w.cell? ⟨g, i * 2 + 1, none⟩ = some (.int .i64 (f i).p)
theorem TRow.below {w w' : World} {g n : Nat} {f : Nat → Tk} (h : TRow w g n f) (hb : Below w.heap.size w w') : TRow w' g n f := by
  intro i hi
  obtain ⟨a, b⟩ := h i hi
  have z : g < w.heap.size := block_lt_of_cell a
  exact ⟨(hb.cell (p := ⟨g, i * 2, none⟩) z).trans a, (hb.cell (p := ⟨g, i * 2 + 1, none⟩) z).trans b⟩
theorem own_ticks {w : World} {base n : Nat} {x : Value} {f : Nat → Tk} {e : TypeId} (h : w.ownsRow base e 2 x n (tkL n f)) (hn : 0 < n) : ∃ g cap, x = .slice (some ⟨g, 0, none⟩) n cap ∧ base ≤ g ∧ TRow w g n f := by
  obtain ⟨h1, h2⟩ := h
  rcases h2 with ⟨_, e⟩ | ⟨g, cap, cur, e, hb, hg, hc, hm, hs, ht⟩
  · omega
  · refine ⟨g, cap, e, hb, fun i hi => ?_⟩
    obtain ⟨a, b⟩ := tkL_at n f i hi
    rw [← ht, List.getElem?_take_of_lt (by omega)] at a b
    simp only [World.cell?, hg]
    exact ⟨by simpa using a, by simpa using b⟩
theorem own_tick1 (w : World) (e : TypeId) : (w.alloc (.cells #[.bool true, .int .i64 0] e)).ownsRow w.heap.size e 2 (.slice (some ⟨w.heap.size, 0, none⟩) 1 1) 1 [.bool true, .int .i64 0] :=
  ⟨rfl, .inr ⟨w.heap.size, 1, _, rfl, Nat.le_refl _, heap_alloc_last w _, Nat.le_refl _, by decide, rfl, rfl⟩⟩
theorem StartT (K : Int) (hK : K = 8 ∨ K = 9 ∨ K = 10) (w : World) (ht : Asc w) : Calls Tryd.prog 16 #[.int .i64 K] w fun e w' => ∃ g c, e = .returned (.slice (some ⟨g, 0, none⟩) 6 c) ∧ w.heap.size ≤ g ∧ Row3 w' g 6 (strV ksT) ∧ Below w.heap.size w w' := by
  rcases hK with rfl | rfl | rfl
  · exact Start_8 w ht
  · exact Start_9 w ht
  · exact Start_10 w ht
theorem stokT (K : Int) (hK : K = 8 ∨ K = 9 ∨ K = 10) (now : Int) : StOk K ksT.size ksT now := by
  rcases hK with rfl | rfl | rfl
  · exact fun a cap v w h1 h2 h3 => Step_8 a cap v now w h1 h2 h3
  · exact fun a cap v w h1 h2 h3 => Step_9 a cap v now w h1 h2 h3
  · exact fun a cap v w h1 h2 h3 => Step_10 a cap v now w h1 h2 h3
theorem neqI (k x : Int) (w : World) : (binOp .neq 34 (V k x ⟨#[]⟩) (V k x ⟨#[]⟩)).run Tryd.prog w = .ok (.bool false) w := by simp [go_sem]
/-- A step of a timer. -/
theorem stepT (K now : Int) (a b : Addr) (cap capm : Nat) (x0 x1 l0 l1 l2 l3 l4 l5 : Int) (w : World) (hS : StOk K ksT.size ksT now) (hv : VsAt w a 6 (vlL ksT [l0, l1, l2, l3, l4, l5])) (hu : VsAt w b 2 (vlL ksT [x0, x1]))
    (hL : okL ksT [l0, l1, l2, l3, l4, l5]) (h0 : B01 x0) (h1 : -9223372036854775808 ≤ x1 ∧ x1 < 9223372036854775808) :
    Calls Tryd.prog 22 #[.int .i64 K, .slice (some a) 6 cap, .int .i64 now, .slice (some b) 2 capm] w fun e w' => ∃ g, e = .returned (NS g 6) ∧ w.heap.size ≤ g ∧ Row3 w' g 6 (vlL ksT (nxt K (clN now) [x0, x1, l2, l3, l4, l5])) ∧ Below w.heap.size w w' :=
  stepL K 2 ksT now a b cap capm _ _ w hS hv hu hL rfl (fun i hi => by
    match i, hi with
    | 0, _ => exact okN1 h0
    | 1, _ => exact okN14 h1) (by decide) (by decide) (by decide)
/-- One value of a row, cell by cell. -/
theorem Row3.val {w : World} {g n : Nat} {v : Nat → Vl} (h : Row3 w g n v) (i o : Nat) (hi : i < n) (e : o = i * 3) : w.cell? ⟨g, o, none⟩ = some (.int .u8 (v i).k) ∧ w.cell? ⟨g, o + 1, none⟩ = some (.int .u64 (v i).b) ∧ w.cell? ⟨g, o + 2, none⟩ = some (.string (v i).s) := by
  subst e
  obtain ⟨A, h1, h2, h3⟩ := h
  obtain ⟨a, b, c⟩ := h3 i hi
  exact ⟨by simp [World.cell?, h1, a], by simp [World.cell?, h1, b], by simp [World.cell?, h1, c]⟩
theorem neqv (p : Bool) (w : World) : (binOp .neq 34 (V 1 (tN p) ⟨#[]⟩) (V 1 (tN p) ⟨#[]⟩)).run Tryd.prog w = .ok (.bool false) w := by cases p <;> kernel_rfl
theorem okL_ex {a b c d e f : Int} (h : okL ksT [a, b, c, d, e, f]) : (-9223372036854775808 ≤ d ∧ d < 9223372036854775808) ∧ (-9223372036854775808 ≤ f ∧ f < 9223372036854775808) ∧ B01 c ∧ B01 e :=
  ⟨(h.2 3 (by decide)).2.2 rfl, (h.2 5 (by decide)).2.2 rfl, (h.2 2 (by decide)).1 rfl, (h.2 4 (by decide)).1 rfl⟩
end Go.Proofs.YtjnegbjgogkamaaDoor
