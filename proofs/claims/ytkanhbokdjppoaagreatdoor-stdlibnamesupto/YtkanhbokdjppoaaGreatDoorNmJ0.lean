/- The document's Params; no statement of the seat is proved here. -/
import Derived.Test.YtkanhbokdjppoaaGreatDoorNmI
import Derived.Test.YtkanhbokdjppoaaGreatDoorNmH
namespace Go.Proofs.YtkanhbokdjppoaaGreatDoor
set_option linter.unusedVariables false
open Go.RowKit
theorem RowS.congr {w : World} {g n : Nat} {p q : Nat → ByteArray} (h : RowS w g n p) (e : ∀ i, i < n → p i = q i) : RowS w g n q := by
  obtain ⟨A, h1, h2, h3⟩ := h
  exact ⟨A, h1, h2, fun i hi => by rw [h3 i hi, e i hi]⟩
theorem in_1 : inN 1 = ⟨#[73, 78, 49]⟩ := (in_lo 1 (by decide)).symm.trans rfl
theorem in_2 : inN 2 = ⟨#[73, 78, 50]⟩ := (in_lo 2 (by decide)).symm.trans rfl
theorem in_0 : inN 0 = ⟨#[73, 78, 48]⟩ := (in_lo 0 (by decide)).symm.trans rfl
theorem many_names (i : Nat) : inN (i + 1) = pnF 2 3 (nmsF [⟨#[73, 78, 49]⟩, ⟨#[73, 78, 50]⟩]) i := by
  unfold pnF
  split
  · rename_i h
    match i, h with
    | 0, _ => exact in_1
    | 1, _ => exact in_2
  · rw [show 3 + (i - 2) = i + 1 by omega]
theorem pm_many {w w' : World} {v : Value} {n : Int} (h1 : 2 ≤ n) (h2 : n ≤ 16) (h : w'.ownsRow w.heap.size 9 1 v n.toNat (stL n.toNat (fun i => inN (i + 1)))) (hb : Below w.heap.size w w') : PmX w [⟨#[73, 78, 49]⟩, ⟨#[73, 78, 50]⟩] 3 n (.returned v) w' := by
  obtain ⟨g, cap, rfl, hg, hr⟩ := own_strs h (by omega)
  refine .inl ⟨by simp [ctB]; omega, g, cap, rfl, hg, hr.congr fun i _ => many_names i, hb⟩
theorem own_up {w : World} {a b n : Nat} {v : Value} {xs : List Value} (h : w.ownsRow b 9 1 v n xs) (l : a ≤ b) : w.ownsRow a 9 1 v n xs := by
  obtain ⟨h1, h2⟩ := h
  refine ⟨h1, ?_⟩
  rcases h2 with q | ⟨g, cap, cur, e, hb, r⟩
  · exact .inl q
  · exact .inr ⟨g, cap, cur, e, Nat.le_trans l hb, r⟩
theorem pm_nil {w w' : World} {l : List ByteArray} {x : Nat} {n : Int} (h : ctB x l.length n = false) (hb : Below w.heap.size w w') : PmX w l x n (.returned (.slice none 0 0)) w' := .inr ⟨h, rfl, hb⟩
theorem pm_some {w w1 w' : World} {l : List ByteArray} {A : Array Value} {c cap : Nat} (hc : l.length = c) (h0 : 0 < c) (hA : A.size = c) (hi : ∀ i, i < c → A[i]? = some (.string (nmsF l i))) (hb : Below w.heap.size w w1) (e : w' = w1.alloc (.cells A 9)) : PmX w l 0 c (.returned (.slice (some ⟨w1.heap.size, 0, none⟩) c cap)) w' := by
  subst hc e
  refine .inl ⟨by simp [ctB]; omega, w1.heap.size, cap, by simp, hb.size, ⟨A, heap_alloc_last w1 _, by simp; omega, fun i h => ?_⟩, hb.alloc hb.size _⟩
  rw [hi i (by simpa using h)]
  unfold pnF
  rw [if_pos (by simpa using h)]
theorem src_row {w : World} {base n cap : Nat} {a : Addr} {xs : List Value} (h : w.ownsRow base 9 1 (.slice (some a) n cap) n xs) : ∀ j u, xs[j]? = some u → w.cell? (a.add j) = some u := by
  intro j u hj
  rcases h.2 with ⟨e, _⟩ | ⟨g, cap', cur, e, _, hg, hc, _, hs, ht⟩
  · cases e
  · simp only [Value.slice.injEq, Option.some.injEq] at e
    obtain ⟨rfl, _, rfl⟩ := e
    have e2 : (⟨g, 0, none⟩ : Addr).add j = ⟨g, j, none⟩ := by unfold Addr.add; split <;> simp_all
    rw [e2]; simp only [World.cell?, hg]
    have lj : j < xs.length := by
      rcases Nat.lt_or_ge j xs.length with q | q
      · exact q
      · rw [List.getElem?_eq_none q] at hj; cases hj
    rw [← ht, List.getElem?_take_of_lt (by rw [← ht] at lj; simp at lj; omega)] at hj
    simpa using hj
theorem mux_names (m : Nat) : Value.string ⟨#[75]⟩ :: stL m (fun i => inN (i + 0)) = stL (m + 1) (pnF 2 1 (nmsF [⟨#[75]⟩, ⟨#[73, 78, 48]⟩])) := by
  unfold stL
  rw [List.range_succ_eq_map, List.map_cons, List.map_map]
  refine congr (congrArg List.cons rfl) (List.map_congr_left fun i _ => ?_)
  show Value.string (inN (i + 0)) = Value.string (pnF 2 1 _ (i + 1))
  unfold pnF
  split
  · rename_i h
    obtain rfl : i = 0 := by omega
    exact congrArg Value.string in_0
  · rw [show 1 + (i + 1 - 2) = i + 0 by omega]
theorem stL_one (m : Nat) : ∀ u ∈ stL m (fun i => inN (i + 0)), u.oneCell' = true := by
  intro u hu
  unfold stL at hu
  simp at hu
  obtain ⟨i, _, rfl⟩ := hu
  rfl
section
variable (s : ByteArray) (y n : Int) (w : World)
set_option maxRecDepth 20000 in
set_option maxHeartbeats 2000000 in
theorem ParamsR_C (z : Int) (hz : 65 ≤ z ∧ z ≤ 83) (hN : Calls Tryz.prog 25 #[.string s] w fun e w' => e = .returned (.tuple #[.int .i64 z, .int .u8 y]) ∧ Below w.heap.size w w') :
    Calls Tryz.prog 12 #[.string s, .int .i64 n] w (PmX w [⟨#[73, 78]⟩] 0 n) := by
  have N : Hid _ := hN
  clear hN
  have z0 : ¬ z = 0 := by omega
  have z1 : ¬ z = 1 := by omega
  have z2 : ¬ z = 2 := by omega
  have z3 : ¬ z = 3 := by omega
  have z4 : ¬ z = 4 := by omega
  have z5 : ¬ z = 5 := by omega
  have z6 : ¬ z = 6 := by omega
  have z7 : ¬ z = 7 := by omega
  have z8 : ¬ z = 8 := by omega
  have z10 : ¬ z = 10 := by omega
  have z11 : ¬ z = 11 := by omega
  have z12 : ¬ z = 12 := by omega
  have z13 : ¬ z = 13 := by omega
  have z14 : ¬ z = 14 := by omega
  have z15 : ¬ z = 15 := by omega
  have z18 : ¬ z = 18 := by omega
  have z19 : ¬ z = 19 := by omega
  have z20 : ¬ z = 20 := by omega
  have z21 : ¬ z = 21 := by omega
  have z22 : ¬ z = 22 := by omega
  have z23 : ¬ z = 23 := by omega
  have z24 : ¬ z = 24 := by omega
  have z25 : ¬ z = 25 := by omega
  have z26 : ¬ z = 26 := by omega
  have z28 : ¬ z = 28 := by omega
  have z29 : ¬ z = 29 := by omega
  have z30 : ¬ z = 30 := by omega
  have z31 : ¬ z = 31 := by omega
  have z32 : ¬ z = 32 := by omega
  have z33 : ¬ z = 33 := by omega
  have z34 : ¬ z = 34 := by omega
  have z35 : ¬ z = 35 := by omega
  clear hz
  by_cases h1 : n = 1
  · subst h1
    go_enter Tryz.func12, Tryz.ntmps12
    go_wp2_with (first
      | (go_at_call 25; refine Calls.mono N.out ?_; rintro e w1 ⟨rfl, hb⟩; have B1 : Hid (Below w.heap.size w w1) := hb; clear hb))
    go_ret
    exact pm_some (c := 1) rfl (by decide) rfl (by intro i hi; match i, hi with | 0, _ => exact rfl) B1.out rfl
  · go_enter Tryz.func12, Tryz.ntmps12
    go_wp2_with (first
      | (go_at_call 25; refine Calls.mono N.out ?_; rintro e w1 ⟨rfl, hb⟩; have B1 : Hid (Below w.heap.size w w1) := hb; clear hb))
    all_goals
      go_ret
      exact pm_nil (by simp [ctB]; omega) (B1.out.alloc B1.out.size _)
set_option maxRecDepth 20000 in
set_option maxHeartbeats 2000000 in
theorem ParamsR_22 (hN : Calls Tryz.prog 25 #[.string s] w fun e w' => e = .returned (.tuple #[.int .i64 22, .int .u8 y]) ∧ Below w.heap.size w w') :
    Calls Tryz.prog 12 #[.string s, .int .i64 n] w (PmX w [⟨#[75]⟩, ⟨#[73, 78, 48]⟩] 1 n) := by
  have N : Hid _ := hN
  clear hN
  have I : Hid (∃ i, Tryz.prog.info? 9 = some i ∧ i.zero = some (.string ⟨#[]⟩) ∧ i.size = 1 ∧ i.bytes = 16) := by
    obtain ⟨i, hi, hz⟩ := Option.map_eq_some_iff.1 (show (Tryz.prog.info? 9).map (fun i => (i.zero, i.size, i.bytes)) = some (some (.string ⟨#[]⟩), 1, 16) by kernel_rfl)
    simp only [Prod.mk.injEq] at hz
    exact ⟨i, hi, hz.1, hz.2.1, hz.2.2⟩
  by_cases h1 : 2 ≤ n
  · by_cases h2 : n ≤ 16
    · obtain ⟨m, rfl⟩ : ∃ m : Nat, n = (m : Int) + 1 := ⟨(n - 1).toNat, by omega⟩
      have RW : Hid _ := fun w => rowR_of 0 m w (by decide) (by omega)
      have en : (m : Int) + 1 - 1 = m := by omega
      go_enter Tryz.func12, Tryz.ntmps12
      go_wp2_with (first
        | (go_at_call 25; refine Calls.mono N.out ?_; rintro e w1 ⟨rfl, hb⟩; have B1 : Hid (Below w.heap.size w w1) := hb; clear hb)
        | (go_at_call 29; refine (RW.out _).mono ?_; rintro e w2 ⟨v, rfl, ho, hb⟩; obtain ⟨g, cap, rfl⟩ : ∃ g cap, v = .slice (some ⟨g, 0, none⟩) m cap := (by rcases ho.2 with ⟨_, e⟩ | ⟨g, cap, cur, e, _⟩; { omega }; exact ⟨g, cap, e⟩); have O : Hid _ := ho; have OB : Hid _ := hb; clear hb ho)
        | (at_builtin; obtain ⟨i', hi, hz, hs, hy⟩ := I.out; refine wpList_append_own _ rfl _ _ 30 rfl w1.heap.size 9 i' _ 1 16 Tryz.underlying30 hi hz hs hy rfl (by decide) _ 1 _ rfl (ownsRow_below (own_made w1 [.string ⟨#[75]⟩] 1 rfl (by decide)) OB.out) ⟨g, 0, none⟩ m cap (stL m (fun i => inN (i + 0))) rfl (by rw [stL_len, Nat.mul_one]) (src_row O.out) (stL_one m) (by unfold maxLen; omega) (by omega) (by have := OB.out.size; simp at this; omega) ?_; intro v' w' k1 k2 k3; have H1 : Hid _ := k1; have H2 : Hid _ := k2; clear k1 k2 k3 hi hz hs hy))
      obtain ⟨g', c', e', hg', hr'⟩ := own_strs (n := m + 1) (p := pnF 2 1 (nmsF [⟨#[75]⟩, ⟨#[73, 78, 48]⟩])) (x := v') (by have := H1.out; rw [List.singleton_append, mux_names, Nat.add_comm 1 m] at this; exact this) (by omega)
      go_ret
      refine .inl ⟨by simp [ctB]; omega, g', c', congrArg Ending.returned e', Nat.le_trans B1.out.size hg', hr', ?_⟩
      have z1 := B1.out.size
      have z2 := OB.out.size
      simp at z2
      exact ((B1.out.alloc z1 _).trans (OB.out.mono (by simp; omega))).grown H2.out (by omega) (fun g e => by cases e; exact z1)
    · go_enter Tryz.func12, Tryz.ntmps12
      go_wp2_with (first
        | (go_at_call 25; refine Calls.mono N.out ?_; rintro e w1 ⟨rfl, hb⟩; have B1 : Hid (Below w.heap.size w w1) := hb; clear hb))
      go_ret
      exact pm_nil (by simp [ctB]; omega) B1.out
  · go_enter Tryz.func12, Tryz.ntmps12
    go_wp2_with (first
      | (go_at_call 25; refine Calls.mono N.out ?_; rintro e w1 ⟨rfl, hb⟩; have B1 : Hid (Below w.heap.size w w1) := hb; clear hb))
    go_ret
    exact pm_nil (by simp [ctB]; omega) B1.out
set_option maxRecDepth 20000 in
theorem ParamsR_0 (hN : Calls Tryz.prog 25 #[.string s] w fun e w' => e = .returned (.tuple #[.int .i64 0, .int .u8 y]) ∧ Below w.heap.size w w') :
    Calls Tryz.prog 12 #[.string s, .int .i64 n] w (PmX w [] 0 n) := by
  have N : Hid _ := hN
  clear hN
  go_enter Tryz.func12, Tryz.ntmps12
  go_wp2_with (first
    | (go_at_call 25; refine Calls.mono N.out ?_; rintro e w1 ⟨rfl, hb⟩; have B1 : Hid (Below w.heap.size w w1) := hb; clear hb))
  all_goals
    go_ret
    exact pm_nil (by simp [ctB]) B1.out
end
end Go.Proofs.YtkanhbokdjppoaaGreatDoor
