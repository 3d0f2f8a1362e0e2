/- image: the head of an image; Check; no statement of the seat is proved here. -/
import Derived.Test.YtdcjngakmkgbmaaGreatCkMK
import Derived.Test.YtdcjngakmkgbmaaGreatCkPK
import Derived.Handy
namespace Go.Proofs.YtdcjngakmkgbmaaGreat
set_option linter.unusedVariables false
open Go.RowKit
theorem bel_drewN {B : Nat} {a w : World} (h : Below B a w) (n : Nat) : Below B a (w.drewN n) := by
  induction n with
  | zero => exact h
  | succ n ih => exact ih.drew
/-- Three numbers as a flaw. -/
def tri (t : Int × Int × Int) : Value := .agg #[.int .i64 t.1, .int .i64 t.2.1, .int .i64 t.2.2]
/-- What a look at the head answers. -/
def hd3 (m : ImR) : Int × Int × Int := if nameB m.nm = false then (0, 0, 6) else if 4096 < m.cs.length then (4096, 0, 4) else if 64 < m.fs.length then (64, 0, 4) else if 16 < m.js.length then (16, 0, 4) else (0, 0, 0)
/-- What the four looks answer. -/
def lk3 (m : ImR) : Nat → Int × Int × Int
  | 0 => hd3 m
  | 1 => match fstN (ceAt m.cs) m.cs.length with
    | some i => (i, 0, 203)
    | none => (0, 0, 0)
  | 2 => match fstN (fun i => decide ((flAt m i).2 = 0)) m.fs.length with
    | some i => (i, (flAt m i).1, (flAt m i).2)
    | none => (0, 0, 0)
  | _ => match fstN (fun i => decide (jbAt m i = 0)) m.js.length with
    | some i => (i, 0, jbAt m i)
    | none => (0, 0, 0)
theorem lk_1 (m : ImR) : fwV (fstN (ceAt m.cs) m.cs.length) 203 = tri (lk3 m 1) := by
  unfold fwV tri lk3
  cases fstN (ceAt m.cs) m.cs.length <;> rfl
theorem lk_2 (m : ImR) : flV m = tri (lk3 m 2) := by
  unfold flV tri lk3
  cases fstN (fun i => decide ((flAt m i).2 = 0)) m.fs.length <;> rfl
theorem lk_3 (m : ImR) : jbV m = tri (lk3 m 3) := by
  unfold jbV tri lk3
  cases fstN (fun i => decide (jbAt m i = 0)) m.js.length <;> rfl
theorem fst_bad {f : Nat → Bool} {n k : Nat} (h : fstN f n = some k) : f k = false := by
  unfold fstN at h
  have := List.find?_some h
  simpa using this
theorem hd_0 {m : ImR} (h : (lk3 m 0).2.2 = 0) : nameB m.nm = true ∧ ¬ 4096 < m.cs.length ∧ ¬ 64 < m.fs.length ∧ ¬ 16 < m.js.length := by
  have h' : (hd3 m).2.2 = 0 := h
  unfold hd3 at h'
  by_cases a : nameB m.nm = false
  · rw [if_pos a] at h'; exact absurd h' (by decide)
  rw [if_neg a] at h'
  by_cases b : 4096 < m.cs.length
  · rw [if_pos b] at h'; exact absurd h' (by decide)
  rw [if_neg b] at h'
  by_cases c : 64 < m.fs.length
  · rw [if_pos c] at h'; exact absurd h' (by decide)
  rw [if_neg c] at h'
  by_cases d : 16 < m.js.length
  · rw [if_pos d] at h'; exact absurd h' (by decide)
  exact ⟨by simpa using a, b, c, d⟩
theorem lk_none1 {m : ImR} (h : (lk3 m 1).2.2 = 0) : fstN (ceAt m.cs) m.cs.length = none := by
  unfold lk3 at h
  cases q : fstN (ceAt m.cs) m.cs.length with
  | none => rfl
  | some i => rw [q] at h; exact absurd (show (203 : Int) = 0 from h) (by decide)
theorem lk_none2 {m : ImR} (h : (lk3 m 2).2.2 = 0) : fstN (fun i => decide ((flAt m i).2 = 0)) m.fs.length = none := by
  unfold lk3 at h
  cases q : fstN (fun i => decide ((flAt m i).2 = 0)) m.fs.length with
  | none => rfl
  | some i =>
    rw [q] at h
    have := fst_bad q
    simp only [decide_eq_false_iff_not] at this
    exact absurd h this
theorem lk_none3 {m : ImR} (h : (lk3 m 3).2.2 = 0) : fstN (fun i => decide (jbAt m i = 0)) m.js.length = none := by
  unfold lk3 at h
  cases q : fstN (fun i => decide (jbAt m i = 0)) m.js.length with
  | none => rfl
  | some i =>
    rw [q] at h
    have := fst_bad q
    simp only [decide_eq_false_iff_not] at this
    exact absurd h this
theorem chk_0 {m : ImR} (h : (lk3 m 0).2.2 ≠ 0) : chk m = lk3 m 0 := by
  show chk m = hd3 m
  have h' : (hd3 m).2.2 ≠ 0 := h
  unfold hd3 at h' ⊢
  unfold chk
  by_cases a : nameB m.nm = false
  · rw [if_pos a, if_pos a]
  rw [if_neg a] at h'
  rw [if_neg a, if_neg a]
  by_cases b : 4096 < m.cs.length
  · rw [if_pos b, if_pos b]
  rw [if_neg b] at h'
  rw [if_neg b, if_neg b]
  by_cases c : 64 < m.fs.length
  · rw [if_pos c, if_pos c]
  rw [if_neg c] at h'
  rw [if_neg c, if_neg c]
  by_cases d : 16 < m.js.length
  · rw [if_pos d, if_pos d]
  rw [if_neg d] at h'
  exact absurd rfl h'
theorem chk_1 {m : ImR} (h0 : (lk3 m 0).2.2 = 0) : chk m = if (lk3 m 1).2.2 ≠ 0 then lk3 m 1 else if (lk3 m 2).2.2 ≠ 0 then lk3 m 2 else if (lk3 m 3).2.2 ≠ 0 then lk3 m 3 else (0, 0, 0) := by
  obtain ⟨a, b, c, d⟩ := hd_0 h0
  unfold chk
  rw [if_neg (by rw [a]; simp), if_neg b, if_neg c, if_neg d]
  by_cases q1 : (lk3 m 1).2.2 = 0
  · rw [if_neg (by simp [q1]), lk_none1 q1]
    by_cases q2 : (lk3 m 2).2.2 = 0
    · rw [if_neg (by simp [q2]), lk_none2 q2]
      by_cases q3 : (lk3 m 3).2.2 = 0
      · rw [if_neg (by simp [q3]), lk_none3 q3]
      · rw [if_pos q3]
        unfold lk3 at q3 ⊢
        cases q : fstN (fun i => decide (jbAt m i = 0)) m.js.length with
        | none => rw [q] at q3; exact absurd rfl q3
        | some i => rfl
    · rw [if_pos q2]
      unfold lk3 at q2 ⊢
      cases q : fstN (fun i => decide ((flAt m i).2 = 0)) m.fs.length with
      | none => rw [q] at q2; exact absurd rfl q2
      | some i => rfl
  · rw [if_pos q1]
    unfold lk3 at q1 ⊢
    cases q : fstN (ceAt m.cs) m.cs.length with
    | none => rw [q] at q1; exact absurd rfl q1
    | some i => rfl
theorem chk_at {m : ImR} {k : Nat} (hk : k < 4) (h : ∀ i, i < k → (lk3 m i).2.2 = 0) (hb : (lk3 m k).2.2 ≠ 0) : chk m = lk3 m k := by
  rcases (show k = 0 ∨ k = 1 ∨ k = 2 ∨ k = 3 by omega) with rfl | rfl | rfl | rfl
  · exact chk_0 hb
  · rw [chk_1 (h 0 (by omega)), if_pos hb]
  · rw [chk_1 (h 0 (by omega)), if_neg (by simp [h 1 (by omega)]), if_pos hb]
  · rw [chk_1 (h 0 (by omega)), if_neg (by simp [h 1 (by omega)]), if_neg (by simp [h 2 (by omega)]), if_pos hb]
theorem chk_all {m : ImR} (h : ∀ i, i < 4 → (lk3 m i).2.2 = 0) : chk m = (0, 0, 0) := by
  rw [chk_1 (h 0 (by omega)), if_neg (by simp [h 1 (by omega)]), if_neg (by simp [h 2 (by omega)]), if_neg (by simp [h 3 (by omega)])]
/-- Where no code has a fault, the codes' cells are so many. -/
theorem codes_ce {m : ImR} (h : (lk3 m 2).2.2 = 0) : ∀ f ∈ m.fs, 0 ≤ f.ce ∧ f.ce ≤ 4096 := by
  intro f hf
  obtain ⟨i, hi⟩ := List.mem_iff_getElem?.1 hf
  have hl := (List.getElem?_eq_some_iff.1 hi).1
  have n := lk_none2 h
  unfold fstN at n
  rw [List.find?_range_eq_none] at n
  have z := n i hl
  simp only [Bool.not_not, decide_eq_true_eq] at z
  unfold flAt at z
  rw [hi] at z
  simp only at z
  by_cases a : nameB f.nm = false
  · rw [if_pos a] at z; exact absurd z (by decide)
  rw [if_neg a] at z
  by_cases b : coB f m.cs.length = false
  · rw [if_pos b] at z; exact absurd z (by decide)
  have b' : coB f m.cs.length = true := by simpa using b
  unfold coB stB at b'
  simp only [Bool.and_eq_true] at b'
  exact inB_t b'.1.1.1.1.1.2
set_option maxRecDepth 20000 in
set_option maxHeartbeats 8000000 in
theorem headFlaw_of (m : ImR) (x1 x2 x3 : Option Addr) (p1 p2 p3 : Nat) (w : World) (hn : shT m.nm) :
    Calls Tryz.prog 21 #[.agg #[.string m.nm, .slice x1 m.cs.length p1, .slice x2 m.fs.length p2, .slice x3 m.js.length p3]] w fun e w' => e = .returned (tri (hd3 m)) ∧ Below w.heap.size w w' := by
  have N1 : Hid (∀ W, Calls Tryz.prog 49 #[.string m.nm] W fun e w' => e = .returned (.bool (nameB m.nm)) ∧ w' = W) := fun W => IsName_of m.nm W (sh_max hn)
  clear hn
  generalize hv : tri (hd3 m) = VV
  have HV : Hid (tri (hd3 m) = VV) := hv
  clear hv
  obtain ⟨AW, eW⟩ : ∃ AW, AW = (w.alloc (.cells #[.string m.nm, .slice x1 m.cs.length p1, .slice x2 m.fs.length p2, .slice x3 m.js.length p3] 26 (0, 0))).alloc (.cells #[.int .i64 0, .int .i64 0, .int .i64 0] 72 (0, 0)) := ⟨_, rfl⟩
  have AB : Hid (Below w.heap.size w AW) := by rw [eW]; exact ((Below.refl _ _).alloc (Nat.le_refl _) _).alloc (by simp) _
  have AZ : Hid (AW.heap[w.heap.size + 1]? = some (.cells #[.int .i64 0, .int .i64 0, .int .i64 0] 72 (0, 0))) := by rw [eW]; exact (tw_at w _ _).2
  have AX : Hid (AW.heap[w.heap.size]? = some (.cells #[.string m.nm, .slice x1 m.cs.length p1, .slice x2 m.fs.length p2, .slice x3 m.js.length p3] 26 (0, 0))) := by rw [eW]; exact (tw_at w _ _).1
  have k0 : AW.cell? ⟨w.heap.size, 0, none⟩ = some (.string m.nm) := by simp [World.cell?, AX.out]
  have k1 : AW.cell? ⟨w.heap.size, 1, none⟩ = some (.slice x1 m.cs.length p1) := by simp [World.cell?, AX.out]
  have k2 : AW.cell? ⟨w.heap.size, 2, none⟩ = some (.slice x2 m.fs.length p2) := by simp [World.cell?, AX.out]
  have k3 : AW.cell? ⟨w.heap.size, 3, none⟩ = some (.slice x3 m.js.length p3) := by simp [World.cell?, AX.out]
  go_enter Tryz.func21, Tryz.ntmps21
  go_upto_region 1 with fail
  rw [← eW]
  clear eW
  generalize hr0 : nameB m.nm = r0 at N1
  have R0 : Hid (nameB m.nm = r0) := hr0
  clear hr0
  go_wp2_with fail
  refine (N1.out _).mono ?_
  rintro e wN ⟨rfl, hN⟩
  rw [hN]
  clear hN wN
  cases r0
  · skip
    have ev : VV = .agg #[.int .i64 0, .int .i64 0, .int .i64 6] := by rw [← HV.out]; unfold hd3; rw [if_pos R0.out]; rfl
    subst ev
    go_wp2_with (refine wpList_store_row rfl 72 _ _ rfl (w.heap.size + 1) _ rfl rfl _ _ AZ.out fw_info rfl (by kernel_rfl) ?_)
    refine bodyPost_ret (v := .agg #[.int .i64 0, .int .i64 0, .int .i64 6]) (results_cell_row Tryz.results21 _ _ (w.heap.size + 1) _ _ (0, 0) _ (by first | rfl | simp [Act.put]) (setRow_heap _ _ _ _ _ _ AZ.out) Tryz.underlying72 rfl fw_info) rfl ?_
    exact ⟨rfl, row_below AB.out (by omega) _⟩
  by_cases qQ1 : 4096 < m.cs.length
  · have iQ1 : (4096 : Int) < (m.cs.length : Int) := by omega
    have Q1 : Hid (4096 < m.cs.length) := qQ1
    clear qQ1
    have ev : VV = .agg #[.int .i64 4096, .int .i64 0, .int .i64 4] := by rw [← HV.out]; unfold hd3; rw [if_neg (by rw [R0.out]; simp), if_pos Q1.out]; rfl
    subst ev
    go_wp2_with (refine wpList_store_row rfl 72 _ _ rfl (w.heap.size + 1) _ rfl rfl _ _ AZ.out fw_info rfl (by kernel_rfl) ?_)
    refine bodyPost_ret (v := .agg #[.int .i64 4096, .int .i64 0, .int .i64 4]) (results_cell_row Tryz.results21 _ _ (w.heap.size + 1) _ _ (0, 0) _ (by first | rfl | simp [Act.put]) (setRow_heap _ _ _ _ _ _ AZ.out) Tryz.underlying72 rfl fw_info) rfl ?_
    exact ⟨rfl, row_below AB.out (by omega) _⟩
  have iQ1 : ¬ (4096 : Int) < (m.cs.length : Int) := by omega
  have Q1 : Hid (¬ 4096 < m.cs.length) := qQ1
  clear qQ1
  by_cases qQ2 : 64 < m.fs.length
  · have iQ2 : (64 : Int) < (m.fs.length : Int) := by omega
    have Q2 : Hid (64 < m.fs.length) := qQ2
    clear qQ2
    have ev : VV = .agg #[.int .i64 64, .int .i64 0, .int .i64 4] := by rw [← HV.out]; unfold hd3; rw [if_neg (by rw [R0.out]; simp), if_neg Q1.out, if_pos Q2.out]; rfl
    subst ev
    go_wp2_with (refine wpList_store_row rfl 72 _ _ rfl (w.heap.size + 1) _ rfl rfl _ _ AZ.out fw_info rfl (by kernel_rfl) ?_)
    refine bodyPost_ret (v := .agg #[.int .i64 64, .int .i64 0, .int .i64 4]) (results_cell_row Tryz.results21 _ _ (w.heap.size + 1) _ _ (0, 0) _ (by first | rfl | simp [Act.put]) (setRow_heap _ _ _ _ _ _ AZ.out) Tryz.underlying72 rfl fw_info) rfl ?_
    exact ⟨rfl, row_below AB.out (by omega) _⟩
  have iQ2 : ¬ (64 : Int) < (m.fs.length : Int) := by omega
  have Q2 : Hid (¬ 64 < m.fs.length) := qQ2
  clear qQ2
  by_cases qQ3 : 16 < m.js.length
  · have iQ3 : (16 : Int) < (m.js.length : Int) := by omega
    have Q3 : Hid (16 < m.js.length) := qQ3
    clear qQ3
    have ev : VV = .agg #[.int .i64 16, .int .i64 0, .int .i64 4] := by rw [← HV.out]; unfold hd3; rw [if_neg (by rw [R0.out]; simp), if_neg Q1.out, if_neg Q2.out, if_pos Q3.out]; rfl
    subst ev
    go_wp2_with (refine wpList_store_row rfl 72 _ _ rfl (w.heap.size + 1) _ rfl rfl _ _ AZ.out fw_info rfl (by kernel_rfl) ?_)
    refine bodyPost_ret (v := .agg #[.int .i64 16, .int .i64 0, .int .i64 4]) (results_cell_row Tryz.results21 _ _ (w.heap.size + 1) _ _ (0, 0) _ (by first | rfl | simp [Act.put]) (setRow_heap _ _ _ _ _ _ AZ.out) Tryz.underlying72 rfl fw_info) rfl ?_
    exact ⟨rfl, row_below AB.out (by omega) _⟩
  have iQ3 : ¬ (16 : Int) < (m.js.length : Int) := by omega
  have Q3 : Hid (¬ 16 < m.js.length) := qQ3
  clear qQ3
  have ev : VV = .agg #[.int .i64 0, .int .i64 0, .int .i64 0] := by rw [← HV.out]; unfold hd3; rw [if_neg (by rw [R0.out]; simp), if_neg Q1.out, if_neg Q2.out, if_neg Q3.out]; rfl
  subst ev
  go_wp2_with (refine wpList_store_row rfl 72 _ _ rfl (w.heap.size + 1) _ rfl rfl _ _ AZ.out fw_info rfl (by kernel_rfl) ?_)
  refine bodyPost_ret (v := .agg #[.int .i64 0, .int .i64 0, .int .i64 0]) (results_cell_row Tryz.results21 _ _ (w.heap.size + 1) _ _ (0, 0) _ (by first | rfl | simp [Act.put]) (setRow_heap _ _ _ _ _ _ AZ.out) Tryz.underlying72 rfl fw_info) rfl ?_
  exact ⟨rfl, row_below AB.out (by omega) _⟩
set_option maxRecDepth 20000 in
set_option maxHeartbeats 8000000 in
theorem CheckI_of (m : ImR) (x1 x2 x3 : Option Addr) (p1 p2 p3 : Nat) (w : World) {S : Nat → Prop} (hS : ∀ b, S b → b < w.heap.size) (hq : ImQ S w m x1 x2 x3) (ho : ImOk m) :
    Calls Tryz.prog 10 #[.agg #[.string m.nm, .slice x1 m.cs.length p1, .slice x2 m.fs.length p2, .slice x3 m.js.length p3]] w fun e w' => e = .returned (.tuple #[.int .i64 (chk m).1, .int .i64 (chk m).2.1, .int .i64 (chk m).2.2]) ∧ Below w.heap.size w w' := by
  obtain ⟨o1, o2, o3, o4, o5, o6, o7⟩ := ho
  have SV : Hid (∀ V, Below w.heap.size w V → ∀ b, S b → b < V.heap.size) := fun V h b hb => Nat.lt_of_lt_of_le (hS b hb) h.size
  have FV : Hid (∀ V, Below w.heap.size w V → FrS S w V) := fun V h q hq => h.cell (hS _ hq)
  have L0 : Hid (∀ V, Below w.heap.size w V → Calls Tryz.prog 21 #[.agg #[.string m.nm, .slice x1 m.cs.length p1, .slice x2 m.fs.length p2, .slice x3 m.js.length p3]] V fun e w' => e = .returned (tri (lk3 m 0)) ∧ Below V.heap.size V w') := fun V h => headFlaw_of m x1 x2 x3 p1 p2 p3 V o1
  have L1 : Hid (∀ V, Below w.heap.size w V → Calls Tryz.prog 22 #[.agg #[.string m.nm, .slice x1 m.cs.length p1, .slice x2 m.fs.length p2, .slice x3 m.js.length p3]] V fun e w' => e = .returned (tri (lk3 m 1)) ∧ Below V.heap.size V w') := fun V h => by rw [← lk_1]; exact cellFlaw_of m x1 x2 x3 p1 p2 p3 V (SV.out V h) (hq.1.fr (FV.out V h)) o2
  have L2 : Hid (∀ V, Below w.heap.size w V → Calls Tryz.prog 23 #[.agg #[.string m.nm, .slice x1 m.cs.length p1, .slice x2 m.fs.length p2, .slice x3 m.js.length p3]] V fun e w' => e = .returned (tri (lk3 m 2)) ∧ Below V.heap.size V w') := fun V h => by rw [← lk_2]; exact codeFlaw_of m x1 x2 x3 p1 p2 p3 V (SV.out V h) (hq.2.1.frK keptF (FV.out V h)) o3 o5 o6
  have L3 : Hid (∀ V, Below w.heap.size w V → (lk3 m 0).2.2 = 0 → (lk3 m 1).2.2 = 0 → (lk3 m 2).2.2 = 0 → Calls Tryz.prog 24 #[.agg #[.string m.nm, .slice x1 m.cs.length p1, .slice x2 m.fs.length p2, .slice x3 m.js.length p3]] V fun e w' => e = .returned (tri (lk3 m 3)) ∧ Below V.heap.size V w') := fun V h _ _ z => by rw [← lk_3]; exact jobFlaw_of m x1 x2 x3 p1 p2 p3 V (SV.out V h) (hq.1.fr (FV.out V h)) (hq.2.1.frK keptF (FV.out V h)) (hq.2.2.frK keptJ (FV.out V h)) o4 o5 o6 o7 (codes_ce z)
  clear hS hq o1 o2 o3 o4 o5 o6 o7 SV FV
  have E0 : ∀ (args : Array Value) (W : World), (callFunc 21 args).run Tryz.prog W = .ok (.enter 21 args) W := fun _ _ => by kernel_rfl
  have E1 : ∀ (args : Array Value) (W : World), (callFunc 22 args).run Tryz.prog W = .ok (.enter 22 args) W := fun _ _ => by kernel_rfl
  have E2 : ∀ (args : Array Value) (W : World), (callFunc 23 args).run Tryz.prog W = .ok (.enter 23 args) W := fun _ _ => by kernel_rfl
  have E3 : ∀ (args : Array Value) (W : World), (callFunc 24 args).run Tryz.prog W = .ok (.enter 24 args) W := fun _ _ => by kernel_rfl
  obtain ⟨AW, eW⟩ : ∃ AW, AW = w.alloc (.cells #[.string m.nm, .slice x1 m.cs.length p1, .slice x2 m.fs.length p2, .slice x3 m.js.length p3] 26 (0, 0)) := ⟨_, rfl⟩
  have AB : Hid (Below w.heap.size w AW) := by rw [eW]; exact (Below.refl _ _).alloc (Nat.le_refl _) _
  have AX : Hid (AW.heap[w.heap.size]? = some (.cells #[.string m.nm, .slice x1 m.cs.length p1, .slice x2 m.fs.length p2, .slice x3 m.js.length p3] 26 (0, 0))) := by rw [eW]; exact heap_alloc_last _ _
  go_enter Tryz.func10, Tryz.ntmps10
  go_wp2_with fail
  rw [← eW]
  clear eW
  go_loopw [9] (fun i wr => ∃ k : Nat, k ≤ 4 ∧ i = .int .i64 k ∧ Below w.heap.size w wr ∧ wr.heap[w.heap.size]? = some (.cells #[.string m.nm, .slice x1 m.cs.length p1, .slice x2 m.fs.length p2, .slice x3 m.js.length p3] 26 (0, 0)) ∧ ∀ i, i < k → (lk3 m i).2.2 = 0) (fun i _ => 4 - (intOf i).toNat)
  case atStart => exact ⟨0, Nat.zero_le _, rfl, AB.out, AX.out, fun j hj => absurd hj (Nat.not_lt_zero _)⟩
  case round =>
    obtain ⟨k, hk, rfl, hbw, hx, hall⟩ := hrel
    have HW : Hid (Below w.heap.size w wr) := hbw
    have HX : Hid (wr.heap[w.heap.size]? = some (.cells #[.string m.nm, .slice x1 m.cs.length p1, .slice x2 m.fs.length p2, .slice x3 m.js.length p3] 26 (0, 0))) := hx
    have AL : Hid (∀ i, i < k → (lk3 m i).2.2 = 0) := hall
    clear hbw hx hall AB AX
    by_cases hlt : k < 4
    · have k0 : wr.cell? ⟨w.heap.size, 0, none⟩ = some (.string m.nm) := by simp [World.cell?, HX.out]
      have k1 : wr.cell? ⟨w.heap.size, 1, none⟩ = some (.slice x1 m.cs.length p1) := by simp [World.cell?, HX.out]
      have k2 : wr.cell? ⟨w.heap.size, 2, none⟩ = some (.slice x2 m.fs.length p2) := by simp [World.cell?, HX.out]
      have k3 : wr.cell? ⟨w.heap.size, 3, none⟩ = some (.slice x3 m.js.length p3) := by simp [World.cell?, HX.out]
      rcases (show k = 0 ∨ k = 1 ∨ k = 2 ∨ k = 3 by omega) with rfl | rfl | rfl | rfl
      · have C : Hid (Calls Tryz.prog 21 #[.agg #[.string m.nm, .slice x1 m.cs.length p1, .slice x2 m.fs.length p2, .slice x3 m.js.length p3]] wr fun e w' => e = .returned (tri (lk3 m 0)) ∧ Below wr.heap.size wr w') := L0.out wr HW.out
        have NX : Hid ((lk3 m 0).2.2 = 0 → ∀ i, i < 0 + 1 → (lk3 m i).2.2 = 0) := fun h i hi => by
          rcases Nat.lt_succ_iff_lt_or_eq.1 hi with q | q
          · exact AL.out i q
          · rw [q]; exact h
        have BD : Hid ((lk3 m 0).2.2 ≠ 0 → chk m = lk3 m 0) := fun h => chk_at (by omega) AL.out h
        have ix : ∀ W : World, (Instr.index 70 (.agg #[.func (.func 21) #[] #[], .func (.func 22) #[] #[], .func (.func 23) #[] #[], .func (.func 24) #[] #[]]) (.int .i64 0)).run Tryz.prog W = .ok (.func (.func 21) #[] #[]) W := fun W => by kernel_rfl
        generalize lk3 m 0 = t at *
        obtain ⟨a, b, c⟩ := t
        simp only at NX BD
        go_wp2_with fail
        refine C.out.mono ?_
        rintro e v1 ⟨rfl, hb1⟩
        have V1 : Hid (Below wr.heap.size wr v1) := hb1
        clear hb1 k0 k1 k2 k3 C
        have W1 : Hid (∀ X : Obj, Below w.heap.size w (v1.alloc X)) := fun X => HW.out.trans ((V1.out.trans (((Below.refl _ _).alloc (Nat.le_refl _) X).mono V1.out.size)).mono HW.out.size)
        have X1 : Hid (∀ X : Obj, (v1.alloc X).heap[w.heap.size]? = some (.cells #[.string m.nm, .slice x1 m.cs.length p1, .slice x2 m.fs.length p2, .slice x3 m.js.length p3] 26 (0, 0))) := fun X => ((V1.out.trans (((Below.refl _ _).alloc (Nat.le_refl _) X).mono V1.out.size)).block _ (blk_in HX.out)).trans HX.out
        unfold tri
        by_cases qc : c = 0
        · have n1 : (c == 0) = true := by simp [qc]
          have n2 : (c != 0) = false := by simp [qc]
          have NN : Hid _ := NX.out qc
          clear qc NX BD
          go_wp2
          exact ⟨⟨0 + 1, by omega, rfl, W1.out _, X1.out _, NN.out⟩, by decide⟩
        · have n1 : (c == 0) = false := by simp [qc]
          have n2 : (c != 0) = true := by simp [qc]
          have NN : Hid _ := BD.out qc
          clear qc NX BD
          go_wp2_with fail
          go_quiet (fail)
          go_wp2
          exact bodyPost_ret (v := .tuple #[.int .i64 a, .int .i64 b, .int .i64 c]) (by simp [results, Tryz.results10, go_sem]) rfl ⟨by rw [NN.out], by first | exact W1.out _ | exact (W1.out _).drew | exact bel_drewN (W1.out _) _⟩
      · have C : Hid (Calls Tryz.prog 22 #[.agg #[.string m.nm, .slice x1 m.cs.length p1, .slice x2 m.fs.length p2, .slice x3 m.js.length p3]] wr fun e w' => e = .returned (tri (lk3 m 1)) ∧ Below wr.heap.size wr w') := L1.out wr HW.out
        have NX : Hid ((lk3 m 1).2.2 = 0 → ∀ i, i < 1 + 1 → (lk3 m i).2.2 = 0) := fun h i hi => by
          rcases Nat.lt_succ_iff_lt_or_eq.1 hi with q | q
          · exact AL.out i q
          · rw [q]; exact h
        have BD : Hid ((lk3 m 1).2.2 ≠ 0 → chk m = lk3 m 1) := fun h => chk_at (by omega) AL.out h
        have ix : ∀ W : World, (Instr.index 70 (.agg #[.func (.func 21) #[] #[], .func (.func 22) #[] #[], .func (.func 23) #[] #[], .func (.func 24) #[] #[]]) (.int .i64 1)).run Tryz.prog W = .ok (.func (.func 22) #[] #[]) W := fun W => by kernel_rfl
        generalize lk3 m 1 = t at *
        obtain ⟨a, b, c⟩ := t
        simp only at NX BD
        go_wp2_with fail
        refine C.out.mono ?_
        rintro e v1 ⟨rfl, hb1⟩
        have V1 : Hid (Below wr.heap.size wr v1) := hb1
        clear hb1 k0 k1 k2 k3 C
        have W1 : Hid (∀ X : Obj, Below w.heap.size w (v1.alloc X)) := fun X => HW.out.trans ((V1.out.trans (((Below.refl _ _).alloc (Nat.le_refl _) X).mono V1.out.size)).mono HW.out.size)
        have X1 : Hid (∀ X : Obj, (v1.alloc X).heap[w.heap.size]? = some (.cells #[.string m.nm, .slice x1 m.cs.length p1, .slice x2 m.fs.length p2, .slice x3 m.js.length p3] 26 (0, 0))) := fun X => ((V1.out.trans (((Below.refl _ _).alloc (Nat.le_refl _) X).mono V1.out.size)).block _ (blk_in HX.out)).trans HX.out
        unfold tri
        by_cases qc : c = 0
        · have n1 : (c == 0) = true := by simp [qc]
          have n2 : (c != 0) = false := by simp [qc]
          have NN : Hid _ := NX.out qc
          clear qc NX BD
          go_wp2
          exact ⟨⟨1 + 1, by omega, rfl, W1.out _, X1.out _, NN.out⟩, by decide⟩
        · have n1 : (c == 0) = false := by simp [qc]
          have n2 : (c != 0) = true := by simp [qc]
          have NN : Hid _ := BD.out qc
          clear qc NX BD
          go_wp2_with fail
          go_quiet (fail)
          go_wp2
          exact bodyPost_ret (v := .tuple #[.int .i64 a, .int .i64 b, .int .i64 c]) (by simp [results, Tryz.results10, go_sem]) rfl ⟨by rw [NN.out], by first | exact W1.out _ | exact (W1.out _).drew | exact bel_drewN (W1.out _) _⟩
      · have C : Hid (Calls Tryz.prog 23 #[.agg #[.string m.nm, .slice x1 m.cs.length p1, .slice x2 m.fs.length p2, .slice x3 m.js.length p3]] wr fun e w' => e = .returned (tri (lk3 m 2)) ∧ Below wr.heap.size wr w') := L2.out wr HW.out
        have NX : Hid ((lk3 m 2).2.2 = 0 → ∀ i, i < 2 + 1 → (lk3 m i).2.2 = 0) := fun h i hi => by
          rcases Nat.lt_succ_iff_lt_or_eq.1 hi with q | q
          · exact AL.out i q
          · rw [q]; exact h
        have BD : Hid ((lk3 m 2).2.2 ≠ 0 → chk m = lk3 m 2) := fun h => chk_at (by omega) AL.out h
        have ix : ∀ W : World, (Instr.index 70 (.agg #[.func (.func 21) #[] #[], .func (.func 22) #[] #[], .func (.func 23) #[] #[], .func (.func 24) #[] #[]]) (.int .i64 2)).run Tryz.prog W = .ok (.func (.func 23) #[] #[]) W := fun W => by kernel_rfl
        generalize lk3 m 2 = t at *
        obtain ⟨a, b, c⟩ := t
        simp only at NX BD
        go_wp2_with fail
        refine C.out.mono ?_
        rintro e v1 ⟨rfl, hb1⟩
        have V1 : Hid (Below wr.heap.size wr v1) := hb1
        clear hb1 k0 k1 k2 k3 C
        have W1 : Hid (∀ X : Obj, Below w.heap.size w (v1.alloc X)) := fun X => HW.out.trans ((V1.out.trans (((Below.refl _ _).alloc (Nat.le_refl _) X).mono V1.out.size)).mono HW.out.size)
        have X1 : Hid (∀ X : Obj, (v1.alloc X).heap[w.heap.size]? = some (.cells #[.string m.nm, .slice x1 m.cs.length p1, .slice x2 m.fs.length p2, .slice x3 m.js.length p3] 26 (0, 0))) := fun X => ((V1.out.trans (((Below.refl _ _).alloc (Nat.le_refl _) X).mono V1.out.size)).block _ (blk_in HX.out)).trans HX.out
        unfold tri
        by_cases qc : c = 0
        · have n1 : (c == 0) = true := by simp [qc]
          have n2 : (c != 0) = false := by simp [qc]
          have NN : Hid _ := NX.out qc
          clear qc NX BD
          go_wp2
          exact ⟨⟨2 + 1, by omega, rfl, W1.out _, X1.out _, NN.out⟩, by decide⟩
        · have n1 : (c == 0) = false := by simp [qc]
          have n2 : (c != 0) = true := by simp [qc]
          have NN : Hid _ := BD.out qc
          clear qc NX BD
          go_wp2_with fail
          go_quiet (fail)
          go_wp2
          exact bodyPost_ret (v := .tuple #[.int .i64 a, .int .i64 b, .int .i64 c]) (by simp [results, Tryz.results10, go_sem]) rfl ⟨by rw [NN.out], by first | exact W1.out _ | exact (W1.out _).drew | exact bel_drewN (W1.out _) _⟩
      · have C : Hid (Calls Tryz.prog 24 #[.agg #[.string m.nm, .slice x1 m.cs.length p1, .slice x2 m.fs.length p2, .slice x3 m.js.length p3]] wr fun e w' => e = .returned (tri (lk3 m 3)) ∧ Below wr.heap.size wr w') := L3.out wr HW.out (AL.out 0 (by omega)) (AL.out 1 (by omega)) (AL.out 2 (by omega))
        have NX : Hid ((lk3 m 3).2.2 = 0 → ∀ i, i < 3 + 1 → (lk3 m i).2.2 = 0) := fun h i hi => by
          rcases Nat.lt_succ_iff_lt_or_eq.1 hi with q | q
          · exact AL.out i q
          · rw [q]; exact h
        have BD : Hid ((lk3 m 3).2.2 ≠ 0 → chk m = lk3 m 3) := fun h => chk_at (by omega) AL.out h
        have ix : ∀ W : World, (Instr.index 70 (.agg #[.func (.func 21) #[] #[], .func (.func 22) #[] #[], .func (.func 23) #[] #[], .func (.func 24) #[] #[]]) (.int .i64 3)).run Tryz.prog W = .ok (.func (.func 24) #[] #[]) W := fun W => by kernel_rfl
        generalize lk3 m 3 = t at *
        obtain ⟨a, b, c⟩ := t
        simp only at NX BD
        go_wp2_with fail
        refine C.out.mono ?_
        rintro e v1 ⟨rfl, hb1⟩
        have V1 : Hid (Below wr.heap.size wr v1) := hb1
        clear hb1 k0 k1 k2 k3 C
        have W1 : Hid (∀ X : Obj, Below w.heap.size w (v1.alloc X)) := fun X => HW.out.trans ((V1.out.trans (((Below.refl _ _).alloc (Nat.le_refl _) X).mono V1.out.size)).mono HW.out.size)
        have X1 : Hid (∀ X : Obj, (v1.alloc X).heap[w.heap.size]? = some (.cells #[.string m.nm, .slice x1 m.cs.length p1, .slice x2 m.fs.length p2, .slice x3 m.js.length p3] 26 (0, 0))) := fun X => ((V1.out.trans (((Below.refl _ _).alloc (Nat.le_refl _) X).mono V1.out.size)).block _ (blk_in HX.out)).trans HX.out
        unfold tri
        by_cases qc : c = 0
        · have n1 : (c == 0) = true := by simp [qc]
          have n2 : (c != 0) = false := by simp [qc]
          have NN : Hid _ := NX.out qc
          clear qc NX BD
          go_wp2
          exact ⟨⟨3 + 1, by omega, rfl, W1.out _, X1.out _, NN.out⟩, by decide⟩
        · have n1 : (c == 0) = false := by simp [qc]
          have n2 : (c != 0) = true := by simp [qc]
          have NN : Hid _ := BD.out qc
          clear qc NX BD
          go_wp2_with fail
          go_quiet (fail)
          go_wp2
          exact bodyPost_ret (v := .tuple #[.int .i64 a, .int .i64 b, .int .i64 c]) (by simp [results, Tryz.results10, go_sem]) rfl ⟨by rw [NN.out], by first | exact W1.out _ | exact (W1.out _).drew | exact bel_drewN (W1.out _) _⟩
    · have ek : k = 4 := by omega
      subst ek
      have NN : Hid (chk m = (0, 0, 0)) := chk_all AL.out
      clear hlt hk
      go_wp2
      exact bodyPost_ret (v := .tuple #[.int .i64 0, .int .i64 0, .int .i64 0]) (by simp [results, Tryz.results10, go_sem]) rfl ⟨by rw [NN.out], HW.out⟩
end Go.Proofs.YtdcjngakmkgbmaaGreat
