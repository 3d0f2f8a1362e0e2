/- What the document's Vars answers, block by block; no statement of the seat is proved here. -/
import Derived.Test.YtjnegbjgogkamaaDoorRfK
import Derived.Test.YtjnegbjgogkamaaDoorRfB
import Derived.Test.YtjnegbjgogkamaaDoorBlkX
namespace Go.Proofs.YtjnegbjgogkamaaDoor
set_option linter.unusedVariables false
open Go.RowKit
/-- A block's variables, as the document has them. -/
abbrev vfR (L : List ByteArray) (ks : ByteArray) (ins outs : Int) (ini : Nat → Value) : VrF := ⟨fun i => L.getD i ⟨#[]⟩, clsN ins outs, kAt ks, ini⟩
abbrev ini0 (i : Nat) : Value := .slice none 0 0
def iniR (b : Nat) (i : Nat) : Value := if i = 2 then .slice (some ⟨b, 0, none⟩) 1 1 else .slice none 0 0
/-- A block that holds TRUE. -/
structure IrAt (w : World) (b : Nat) : Prop where
  c0 : w.cell? ⟨b, 0, none⟩ = some (.int .u8 1)
  c1 : w.cell? ⟨b, 1, none⟩ = some (.int .u64 1)
  c2 : w.cell? ⟨b, 2, none⟩ = some (.string ⟨#[]⟩)
theorem vrC_ne (nm : ByteArray) (cl kd : Int) (x y : Value) (j : Nat) (h : j ≠ 12) : (vrC nm cl kd x)[j]? = (vrC nm cl kd y)[j]? := by
  unfold vrC
  match j with
  | 0 => rfl
  | 1 => rfl
  | 2 => rfl
  | 3 => rfl
  | 4 => rfl
  | 5 => rfl
  | 6 => rfl
  | 7 => rfl
  | 8 => rfl
  | 9 => rfl
  | 10 => rfl
  | 11 => rfl
  | 12 => exact absurd rfl h
  | 13 => rfl
  | 14 => rfl
  | 15 => rfl
  | n + 16 => rfl
theorem own_vcur {w : World} {base n : Nat} {x : Value} {v : VrF} {e : TypeId} (h : w.ownsRow base e 16 x n (vrL n v)) (hn : 0 < n) : ∃ g cap cur, x = .slice (some ⟨g, 0, none⟩) n cap ∧ base ≤ g ∧ w.heap[g]? = some (.cells cur e (0, 0)) ∧ ∀ i, i < n → ∀ j, j < 16 → cur[i * 16 + j]? = (vrC (v.nm i) (v.cl i) (v.kd i) (v.ini i))[j]? := by
  obtain ⟨h1, h2⟩ := h
  rcases h2 with ⟨_, e⟩ | ⟨g, cap, cur, e, hb, hg, hc, hm, hs, ht⟩
  · omega
  · refine ⟨g, cap, cur, e, hb, hg, fun i hi j hj => ?_⟩
    have f := vrL_at n v i j hi hj
    rw [← ht, List.getElem?_take_of_lt (by omega)] at f
    simpa using f
set_option maxRecDepth 20000 in
set_option maxHeartbeats 4000000 in
theorem VarsR_1 (w : World) : Calls Tryd.prog 14 #[.int .i64 1] w fun e w' => ∃ g c, e = .returned (.slice (some ⟨g, 0, none⟩) 3 c) ∧ w.heap.size ≤ g ∧ VrAt w' g 3 (vfR nL1 ks3 2 1 ini0) ∧ Below w.heap.size w w' := by
  have OW : Hid (w.ownsRow w.heap.size 59 16 (.slice none 0 0) 0 (vrL 0 (vfR nL1 ks3 2 1 ini0))) := ⟨rfl, .inl ⟨rfl, rfl⟩⟩
  have BW : Hid (Below w.heap.size w w) := Below.refl _ _
  go_enter Tryd.func14, Tryd.ntmps14
  go_wp2_with fail
  refine (oneR_of w.heap.size _ 0 2 (vfR nL1 ks3 2 1 ini0) 1 1 _ _ _ _ (ownsRow_below OW.out ((Below.refl _ _).alloc (Nat.le_refl _) _)) (Nat.le_trans BW.out.size (by simp)) BW.out.size (heap_alloc_last _ _) (fun i hi => by
    match i, hi with
    | 0, _ => rfl
    | 1, _ => rfl) (by decide) (fun i hi => by
    match i, hi with
    | 0, _ => exact ⟨rfl, rfl, rfl⟩
    | 1, _ => exact ⟨rfl, rfl, rfl⟩)).mono ?_
  rintro e w0 ⟨x0, rfl, ho, hb⟩
  have OW : Hid (w0.ownsRow w.heap.size 59 16 x0 2 (vrL 2 (vfR nL1 ks3 2 1 ini0))) := ho
  have BW : Hid (Below w.heap.size w w0) := (BW.out.alloc BW.out.size _).trans hb
  clear ho hb
  go_wp2_with fail
  refine (oneR_of w.heap.size _ 2 1 (vfR nL1 ks3 2 1 ini0) 2 1 _ _ _ _ (ownsRow_below OW.out ((Below.refl _ _).alloc (Nat.le_refl _) _)) (Nat.le_trans BW.out.size (by simp)) BW.out.size (heap_alloc_last _ _) (fun i hi => by
    match i, hi with
    | 0, _ => rfl) (by decide) (fun i hi => by
    match i, hi with
    | 0, _ => exact ⟨rfl, rfl, rfl⟩)).mono ?_
  rintro e w1 ⟨x1, rfl, ho, hb⟩
  have OW : Hid (w1.ownsRow w.heap.size 59 16 x1 3 (vrL 3 (vfR nL1 ks3 2 1 ini0))) := ho
  have BW : Hid (Below w.heap.size w w1) := (BW.out.alloc BW.out.size _).trans hb
  clear ho hb
  go_wp2
  obtain ⟨g, c, rfl, hg, hr⟩ := own_vars OW.out (by decide)
  go_ret
  exact ⟨g, c, rfl, hg, hr, BW.out⟩
set_option maxRecDepth 20000 in
set_option maxHeartbeats 4000000 in
theorem VarsR_2 (w : World) : Calls Tryd.prog 14 #[.int .i64 2] w fun e w' => ∃ g c, e = .returned (.slice (some ⟨g, 0, none⟩) 3 c) ∧ w.heap.size ≤ g ∧ VrAt w' g 3 (vfR nL2 ks3 2 1 ini0) ∧ Below w.heap.size w w' := by
  have OW : Hid (w.ownsRow w.heap.size 59 16 (.slice none 0 0) 0 (vrL 0 (vfR nL2 ks3 2 1 ini0))) := ⟨rfl, .inl ⟨rfl, rfl⟩⟩
  have BW : Hid (Below w.heap.size w w) := Below.refl _ _
  go_enter Tryd.func14, Tryd.ntmps14
  go_wp2_with fail
  refine (oneR_of w.heap.size _ 0 2 (vfR nL2 ks3 2 1 ini0) 1 1 _ _ _ _ (ownsRow_below OW.out ((Below.refl _ _).alloc (Nat.le_refl _) _)) (Nat.le_trans BW.out.size (by simp)) BW.out.size (heap_alloc_last _ _) (fun i hi => by
    match i, hi with
    | 0, _ => rfl
    | 1, _ => rfl) (by decide) (fun i hi => by
    match i, hi with
    | 0, _ => exact ⟨rfl, rfl, rfl⟩
    | 1, _ => exact ⟨rfl, rfl, rfl⟩)).mono ?_
  rintro e w0 ⟨x0, rfl, ho, hb⟩
  have OW : Hid (w0.ownsRow w.heap.size 59 16 x0 2 (vrL 2 (vfR nL2 ks3 2 1 ini0))) := ho
  have BW : Hid (Below w.heap.size w w0) := (BW.out.alloc BW.out.size _).trans hb
  clear ho hb
  go_wp2_with fail
  refine (oneR_of w.heap.size _ 2 1 (vfR nL2 ks3 2 1 ini0) 2 1 _ _ _ _ (ownsRow_below OW.out ((Below.refl _ _).alloc (Nat.le_refl _) _)) (Nat.le_trans BW.out.size (by simp)) BW.out.size (heap_alloc_last _ _) (fun i hi => by
    match i, hi with
    | 0, _ => rfl) (by decide) (fun i hi => by
    match i, hi with
    | 0, _ => exact ⟨rfl, rfl, rfl⟩)).mono ?_
  rintro e w1 ⟨x1, rfl, ho, hb⟩
  have OW : Hid (w1.ownsRow w.heap.size 59 16 x1 3 (vrL 3 (vfR nL2 ks3 2 1 ini0))) := ho
  have BW : Hid (Below w.heap.size w w1) := (BW.out.alloc BW.out.size _).trans hb
  clear ho hb
  go_wp2
  obtain ⟨g, c, rfl, hg, hr⟩ := own_vars OW.out (by decide)
  go_ret
  exact ⟨g, c, rfl, hg, hr, BW.out⟩
set_option maxRecDepth 20000 in
set_option maxHeartbeats 4000000 in
theorem VarsR_3 (w : World) : Calls Tryd.prog 14 #[.int .i64 3] w fun e w' => ∃ g c, e = .returned (.slice (some ⟨g, 0, none⟩) 3 c) ∧ w.heap.size ≤ g ∧ VrAt w' g 3 (vfR nLE ks3 1 1 ini0) ∧ Below w.heap.size w w' := by
  have OW : Hid (w.ownsRow w.heap.size 59 16 (.slice none 0 0) 0 (vrL 0 (vfR nLE ks3 1 1 ini0))) := ⟨rfl, .inl ⟨rfl, rfl⟩⟩
  have BW : Hid (Below w.heap.size w w) := Below.refl _ _
  go_enter Tryd.func14, Tryd.ntmps14
  go_wp2_with fail
  refine (oneR_of w.heap.size _ 0 1 (vfR nLE ks3 1 1 ini0) 1 1 _ _ _ _ (ownsRow_below OW.out ((Below.refl _ _).alloc (Nat.le_refl _) _)) (Nat.le_trans BW.out.size (by simp)) BW.out.size (heap_alloc_last _ _) (fun i hi => by
    match i, hi with
    | 0, _ => rfl) (by decide) (fun i hi => by
    match i, hi with
    | 0, _ => exact ⟨rfl, rfl, rfl⟩)).mono ?_
  rintro e w0 ⟨x0, rfl, ho, hb⟩
  have OW : Hid (w0.ownsRow w.heap.size 59 16 x0 1 (vrL 1 (vfR nLE ks3 1 1 ini0))) := ho
  have BW : Hid (Below w.heap.size w w0) := (BW.out.alloc BW.out.size _).trans hb
  clear ho hb
  go_wp2_with fail
  refine (oneR_of w.heap.size _ 1 1 (vfR nLE ks3 1 1 ini0) 2 1 _ _ _ _ (ownsRow_below OW.out ((Below.refl _ _).alloc (Nat.le_refl _) _)) (Nat.le_trans BW.out.size (by simp)) BW.out.size (heap_alloc_last _ _) (fun i hi => by
    match i, hi with
    | 0, _ => rfl) (by decide) (fun i hi => by
    match i, hi with
    | 0, _ => exact ⟨rfl, rfl, rfl⟩)).mono ?_
  rintro e w1 ⟨x1, rfl, ho, hb⟩
  have OW : Hid (w1.ownsRow w.heap.size 59 16 x1 2 (vrL 2 (vfR nLE ks3 1 1 ini0))) := ho
  have BW : Hid (Below w.heap.size w w1) := (BW.out.alloc BW.out.size _).trans hb
  clear ho hb
  go_wp2_with fail
  refine (oneR_of w.heap.size _ 2 1 (vfR nLE ks3 1 1 ini0) 4 1 _ _ _ _ (ownsRow_below OW.out ((Below.refl _ _).alloc (Nat.le_refl _) _)) (Nat.le_trans BW.out.size (by simp)) BW.out.size (heap_alloc_last _ _) (fun i hi => by
    match i, hi with
    | 0, _ => rfl) (by decide) (fun i hi => by
    match i, hi with
    | 0, _ => exact ⟨rfl, rfl, rfl⟩)).mono ?_
  rintro e w2 ⟨x2, rfl, ho, hb⟩
  have OW : Hid (w2.ownsRow w.heap.size 59 16 x2 3 (vrL 3 (vfR nLE ks3 1 1 ini0))) := ho
  have BW : Hid (Below w.heap.size w w2) := (BW.out.alloc BW.out.size _).trans hb
  clear ho hb
  go_wp2
  obtain ⟨g, c, rfl, hg, hr⟩ := own_vars OW.out (by decide)
  go_ret
  exact ⟨g, c, rfl, hg, hr, BW.out⟩
set_option maxRecDepth 20000 in
set_option maxHeartbeats 4000000 in
theorem VarsR_4 (w : World) : Calls Tryd.prog 14 #[.int .i64 4] w fun e w' => ∃ g c, e = .returned (.slice (some ⟨g, 0, none⟩) 3 c) ∧ w.heap.size ≤ g ∧ (∃ b, VrAt w' g 3 (vfR nLE ks3 1 1 (iniR b)) ∧ IrAt w' b) ∧ Below w.heap.size w w' := by
  have OW : Hid (w.ownsRow w.heap.size 59 16 (.slice none 0 0) 0 (vrL 0 (vfR nLE ks3 1 1 ini0))) := ⟨rfl, .inl ⟨rfl, rfl⟩⟩
  have BW : Hid (Below w.heap.size w w) := Below.refl _ _
  go_enter Tryd.func14, Tryd.ntmps14
  go_wp2_with fail
  refine (oneR_of w.heap.size _ 0 1 (vfR nLE ks3 1 1 ini0) 1 1 _ _ _ _ (ownsRow_below OW.out ((Below.refl _ _).alloc (Nat.le_refl _) _)) (Nat.le_trans BW.out.size (by simp)) BW.out.size (heap_alloc_last _ _) (fun i hi => by
    match i, hi with
    | 0, _ => rfl) (by decide) (fun i hi => by
    match i, hi with
    | 0, _ => exact ⟨rfl, rfl, rfl⟩)).mono ?_
  rintro e w0 ⟨x0, rfl, ho, hb⟩
  have OW : Hid (w0.ownsRow w.heap.size 59 16 x0 1 (vrL 1 (vfR nLE ks3 1 1 ini0))) := ho
  have BW : Hid (Below w.heap.size w w0) := (BW.out.alloc BW.out.size _).trans hb
  clear ho hb
  go_wp2_with fail
  refine (oneR_of w.heap.size _ 1 1 (vfR nLE ks3 1 1 ini0) 2 1 _ _ _ _ (ownsRow_below OW.out ((Below.refl _ _).alloc (Nat.le_refl _) _)) (Nat.le_trans BW.out.size (by simp)) BW.out.size (heap_alloc_last _ _) (fun i hi => by
    match i, hi with
    | 0, _ => rfl) (by decide) (fun i hi => by
    match i, hi with
    | 0, _ => exact ⟨rfl, rfl, rfl⟩)).mono ?_
  rintro e w1 ⟨x1, rfl, ho, hb⟩
  have OW : Hid (w1.ownsRow w.heap.size 59 16 x1 2 (vrL 2 (vfR nLE ks3 1 1 ini0))) := ho
  have BW : Hid (Below w.heap.size w w1) := (BW.out.alloc BW.out.size _).trans hb
  clear ho hb
  go_wp2_with fail
  refine (oneR_of w.heap.size _ 2 1 (vfR nLE ks3 1 1 ini0) 4 1 _ _ _ _ (ownsRow_below OW.out ((Below.refl _ _).alloc (Nat.le_refl _) _)) (Nat.le_trans BW.out.size (by simp)) BW.out.size (heap_alloc_last _ _) (fun i hi => by
    match i, hi with
    | 0, _ => rfl) (by decide) (fun i hi => by
    match i, hi with
    | 0, _ => exact ⟨rfl, rfl, rfl⟩)).mono ?_
  rintro e w2 ⟨x2, rfl, ho, hb⟩
  have OW : Hid (w2.ownsRow w.heap.size 59 16 x2 3 (vrL 3 (vfR nLE ks3 1 1 ini0))) := ho
  have BW : Hid (Below w.heap.size w w2) := (BW.out.alloc BW.out.size _).trans hb
  clear ho hb
  obtain ⟨g, c, cur, rfl, hg, hh, hcell⟩ := own_vcur OW.out (by decide)
  have zg : g < w2.heap.size := lt_of_block hh
  have hh' : (w2.alloc (.cells #[.int .u8 1, .int .u64 1, .string ⟨#[]⟩] 34)).heap[g]? = some (.cells cur 59 (0, 0)) := (((Below.refl _ _).alloc (Nat.le_refl _) _).block g zg).trans hh
  have c44 : (w2.alloc (.cells #[.int .u8 1, .int .u64 1, .string ⟨#[]⟩] 34)).cell? ⟨g, 44, none⟩ = some (.slice none 0 0) := by
    simp only [World.cell?, hh']; exact hcell 2 (by decide) 12 (by decide)
  have f44 : (w2.alloc (.cells #[.int .u8 1, .int .u64 1, .string ⟨#[]⟩] 34)).frozen? ⟨g, 44, none⟩ = false := by simp [World.frozen?, hh']
  have HH : Hid _ := hh
  have HC : Hid (∀ i, i < 3 → ∀ j, j < 16 → cur[i * 16 + j]? = _) := hcell
  have nz : ¬ w2.heap.size = g := by omega
  have zs : (w2.setCell ⟨g, 44, none⟩ (.slice (some ⟨w2.heap.size, 0, none⟩) 1 1)).heap.size = w2.heap.size := by simp [World.setCell]
  clear hh hh' hcell
  go_wp2
  go_ret
  refine ⟨g, c, rfl, hg, ⟨w2.heap.size, ?_, ?_⟩, ?_⟩
  · have e : ((w2.setCell ⟨g, 44, none⟩ (.slice (some ⟨w2.heap.size, 0, none⟩) 1 1)).alloc (.cells #[.int .u8 1, .int .u64 1, .string ⟨#[]⟩] 34)).heap[g]? = some (.cells (cur.setIfInBounds 44 (.slice (some ⟨w2.heap.size, 0, none⟩) 1 1)) 59 (0, 0)) :=
      (((Below.refl _ _).alloc (Nat.le_refl _) _).block g (by rw [zs]; exact zg)).trans (heap_setCell_same _ g 44 cur 59 (.slice (some ⟨w2.heap.size, 0, none⟩) 1 1) HH.out)
    intro i hi j hj
    simp only [World.cell?, e]
    by_cases c : i * 16 + j = 44
    · have ei : i = 2 := by omega
      have ej : j = 12 := by omega
      subst ei ej
      have s44 : 44 < cur.size := by
        have := HC.out 2 (by decide) 12 (by decide)
        rcases Nat.lt_or_ge 44 cur.size with z | z
        · exact z
        · rw [Array.getElem?_eq_none z] at this; cases this
      rw [show 2 * 16 + 12 = 44 from rfl, Array.getElem?_setIfInBounds_self_of_lt s44]
      rfl
    · rw [Array.getElem?_setIfInBounds_ne (by omega), HC.out i hi j hj]
      by_cases i2 : i = 2
      · subst i2; exact vrC_ne _ _ _ _ _ j (by omega)
      · show (vrC _ _ _ (ini0 i))[j]? = (vrC _ _ _ (iniR _ i))[j]?
        rw [show iniR w2.heap.size i = ini0 i from by unfold iniR; rw [if_neg i2]]
  · have hb : ((w2.setCell ⟨g, 44, none⟩ (.slice (some ⟨w2.heap.size, 0, none⟩) 1 1)).alloc (.cells #[.int .u8 1, .int .u64 1, .string ⟨#[]⟩] 34)).heap[w2.heap.size]? = some (.cells #[.int .u8 1, .int .u64 1, .string ⟨#[]⟩] 34 (0, 0)) := by have h := heap_alloc_last (w2.setCell ⟨g, 44, none⟩ (.slice (some ⟨w2.heap.size, 0, none⟩) 1 1)) (.cells #[.int .u8 1, .int .u64 1, .string ⟨#[]⟩] 34); rw [zs] at h; exact h
    exact ⟨by simp only [World.cell?, hb]; rfl, by simp only [World.cell?, hb]; rfl, by simp only [World.cell?, hb]; rfl⟩
  · have B : Below w.heap.size w (w2.setCell ⟨g, 44, none⟩ (.slice (some ⟨w2.heap.size, 0, none⟩) 1 1)) := ⟨BW.out.os, BW.out.tape, BW.out.output, by rw [zs]; exact BW.out.size, fun k hk => by rw [Below.heap_setCell _ _ _ _ (show k ≠ g by omega)]; exact BW.out.block k hk⟩
    exact B.alloc B.size _
set_option maxRecDepth 20000 in
set_option maxHeartbeats 4000000 in
theorem VarsR_5 (w : World) : Calls Tryd.prog 14 #[.int .i64 5] w fun e w' => ∃ g c, e = .returned (.slice (some ⟨g, 0, none⟩) 6 c) ∧ w.heap.size ≤ g ∧ VrAt w' g 6 (vfR nLU ksC 3 2 ini0) ∧ Below w.heap.size w w' := by
  have OW : Hid (w.ownsRow w.heap.size 59 16 (.slice none 0 0) 0 (vrL 0 (vfR nLU ksC 3 2 ini0))) := ⟨rfl, .inl ⟨rfl, rfl⟩⟩
  have BW : Hid (Below w.heap.size w w) := Below.refl _ _
  go_enter Tryd.func14, Tryd.ntmps14
  go_wp2_with fail
  refine (oneR_of w.heap.size _ 0 2 (vfR nLU ksC 3 2 ini0) 1 1 _ _ _ _ (ownsRow_below OW.out ((Below.refl _ _).alloc (Nat.le_refl _) _)) (Nat.le_trans BW.out.size (by simp)) BW.out.size (heap_alloc_last _ _) (fun i hi => by
    match i, hi with
    | 0, _ => rfl
    | 1, _ => rfl) (by decide) (fun i hi => by
    match i, hi with
    | 0, _ => exact ⟨rfl, rfl, rfl⟩
    | 1, _ => exact ⟨rfl, rfl, rfl⟩)).mono ?_
  rintro e w0 ⟨x0, rfl, ho, hb⟩
  have OW : Hid (w0.ownsRow w.heap.size 59 16 x0 2 (vrL 2 (vfR nLU ksC 3 2 ini0))) := ho
  have BW : Hid (Below w.heap.size w w0) := (BW.out.alloc BW.out.size _).trans hb
  clear ho hb
  go_wp2_with fail
  refine (oneR_of w.heap.size _ 2 1 (vfR nLU ksC 3 2 ini0) 1 3 _ _ _ _ (ownsRow_below OW.out ((Below.refl _ _).alloc (Nat.le_refl _) _)) (Nat.le_trans BW.out.size (by simp)) BW.out.size (heap_alloc_last _ _) (fun i hi => by
    match i, hi with
    | 0, _ => rfl) (by decide) (fun i hi => by
    match i, hi with
    | 0, _ => exact ⟨rfl, rfl, rfl⟩)).mono ?_
  rintro e w1 ⟨x1, rfl, ho, hb⟩
  have OW : Hid (w1.ownsRow w.heap.size 59 16 x1 3 (vrL 3 (vfR nLU ksC 3 2 ini0))) := ho
  have BW : Hid (Below w.heap.size w w1) := (BW.out.alloc BW.out.size _).trans hb
  clear ho hb
  go_wp2_with fail
  refine (oneR_of w.heap.size _ 3 1 (vfR nLU ksC 3 2 ini0) 2 1 _ _ _ _ (ownsRow_below OW.out ((Below.refl _ _).alloc (Nat.le_refl _) _)) (Nat.le_trans BW.out.size (by simp)) BW.out.size (heap_alloc_last _ _) (fun i hi => by
    match i, hi with
    | 0, _ => rfl) (by decide) (fun i hi => by
    match i, hi with
    | 0, _ => exact ⟨rfl, rfl, rfl⟩)).mono ?_
  rintro e w2 ⟨x2, rfl, ho, hb⟩
  have OW : Hid (w2.ownsRow w.heap.size 59 16 x2 4 (vrL 4 (vfR nLU ksC 3 2 ini0))) := ho
  have BW : Hid (Below w.heap.size w w2) := (BW.out.alloc BW.out.size _).trans hb
  clear ho hb
  go_wp2_with fail
  refine (oneR_of w.heap.size _ 4 1 (vfR nLU ksC 3 2 ini0) 2 3 _ _ _ _ (ownsRow_below OW.out ((Below.refl _ _).alloc (Nat.le_refl _) _)) (Nat.le_trans BW.out.size (by simp)) BW.out.size (heap_alloc_last _ _) (fun i hi => by
    match i, hi with
    | 0, _ => rfl) (by decide) (fun i hi => by
    match i, hi with
    | 0, _ => exact ⟨rfl, rfl, rfl⟩)).mono ?_
  rintro e w3 ⟨x3, rfl, ho, hb⟩
  have OW : Hid (w3.ownsRow w.heap.size 59 16 x3 5 (vrL 5 (vfR nLU ksC 3 2 ini0))) := ho
  have BW : Hid (Below w.heap.size w w3) := (BW.out.alloc BW.out.size _).trans hb
  clear ho hb
  go_wp2_with fail
  refine (oneR_of w.heap.size _ 5 1 (vfR nLU ksC 3 2 ini0) 4 1 _ _ _ _ (ownsRow_below OW.out ((Below.refl _ _).alloc (Nat.le_refl _) _)) (Nat.le_trans BW.out.size (by simp)) BW.out.size (heap_alloc_last _ _) (fun i hi => by
    match i, hi with
    | 0, _ => rfl) (by decide) (fun i hi => by
    match i, hi with
    | 0, _ => exact ⟨rfl, rfl, rfl⟩)).mono ?_
  rintro e w4 ⟨x4, rfl, ho, hb⟩
  have OW : Hid (w4.ownsRow w.heap.size 59 16 x4 6 (vrL 6 (vfR nLU ksC 3 2 ini0))) := ho
  have BW : Hid (Below w.heap.size w w4) := (BW.out.alloc BW.out.size _).trans hb
  clear ho hb
  go_wp2
  obtain ⟨g, c, rfl, hg, hr⟩ := own_vars OW.out (by decide)
  go_ret
  exact ⟨g, c, rfl, hg, hr, BW.out⟩
set_option maxRecDepth 20000 in
set_option maxHeartbeats 4000000 in
theorem VarsR_6 (w : World) : Calls Tryd.prog 14 #[.int .i64 6] w fun e w' => ∃ g c, e = .returned (.slice (some ⟨g, 0, none⟩) 6 c) ∧ w.heap.size ≤ g ∧ VrAt w' g 6 (vfR nLD ksC 3 2 ini0) ∧ Below w.heap.size w w' := by
  have OW : Hid (w.ownsRow w.heap.size 59 16 (.slice none 0 0) 0 (vrL 0 (vfR nLD ksC 3 2 ini0))) := ⟨rfl, .inl ⟨rfl, rfl⟩⟩
  have BW : Hid (Below w.heap.size w w) := Below.refl _ _
  go_enter Tryd.func14, Tryd.ntmps14
  go_wp2_with fail
  refine (oneR_of w.heap.size _ 0 2 (vfR nLD ksC 3 2 ini0) 1 1 _ _ _ _ (ownsRow_below OW.out ((Below.refl _ _).alloc (Nat.le_refl _) _)) (Nat.le_trans BW.out.size (by simp)) BW.out.size (heap_alloc_last _ _) (fun i hi => by
    match i, hi with
    | 0, _ => rfl
    | 1, _ => rfl) (by decide) (fun i hi => by
    match i, hi with
    | 0, _ => exact ⟨rfl, rfl, rfl⟩
    | 1, _ => exact ⟨rfl, rfl, rfl⟩)).mono ?_
  rintro e w0 ⟨x0, rfl, ho, hb⟩
  have OW : Hid (w0.ownsRow w.heap.size 59 16 x0 2 (vrL 2 (vfR nLD ksC 3 2 ini0))) := ho
  have BW : Hid (Below w.heap.size w w0) := (BW.out.alloc BW.out.size _).trans hb
  clear ho hb
  go_wp2_with fail
  refine (oneR_of w.heap.size _ 2 1 (vfR nLD ksC 3 2 ini0) 1 3 _ _ _ _ (ownsRow_below OW.out ((Below.refl _ _).alloc (Nat.le_refl _) _)) (Nat.le_trans BW.out.size (by simp)) BW.out.size (heap_alloc_last _ _) (fun i hi => by
    match i, hi with
    | 0, _ => rfl) (by decide) (fun i hi => by
    match i, hi with
    | 0, _ => exact ⟨rfl, rfl, rfl⟩)).mono ?_
  rintro e w1 ⟨x1, rfl, ho, hb⟩
  have OW : Hid (w1.ownsRow w.heap.size 59 16 x1 3 (vrL 3 (vfR nLD ksC 3 2 ini0))) := ho
  have BW : Hid (Below w.heap.size w w1) := (BW.out.alloc BW.out.size _).trans hb
  clear ho hb
  go_wp2_with fail
  refine (oneR_of w.heap.size _ 3 1 (vfR nLD ksC 3 2 ini0) 2 1 _ _ _ _ (ownsRow_below OW.out ((Below.refl _ _).alloc (Nat.le_refl _) _)) (Nat.le_trans BW.out.size (by simp)) BW.out.size (heap_alloc_last _ _) (fun i hi => by
    match i, hi with
    | 0, _ => rfl) (by decide) (fun i hi => by
    match i, hi with
    | 0, _ => exact ⟨rfl, rfl, rfl⟩)).mono ?_
  rintro e w2 ⟨x2, rfl, ho, hb⟩
  have OW : Hid (w2.ownsRow w.heap.size 59 16 x2 4 (vrL 4 (vfR nLD ksC 3 2 ini0))) := ho
  have BW : Hid (Below w.heap.size w w2) := (BW.out.alloc BW.out.size _).trans hb
  clear ho hb
  go_wp2_with fail
  refine (oneR_of w.heap.size _ 4 1 (vfR nLD ksC 3 2 ini0) 2 3 _ _ _ _ (ownsRow_below OW.out ((Below.refl _ _).alloc (Nat.le_refl _) _)) (Nat.le_trans BW.out.size (by simp)) BW.out.size (heap_alloc_last _ _) (fun i hi => by
    match i, hi with
    | 0, _ => rfl) (by decide) (fun i hi => by
    match i, hi with
    | 0, _ => exact ⟨rfl, rfl, rfl⟩)).mono ?_
  rintro e w3 ⟨x3, rfl, ho, hb⟩
  have OW : Hid (w3.ownsRow w.heap.size 59 16 x3 5 (vrL 5 (vfR nLD ksC 3 2 ini0))) := ho
  have BW : Hid (Below w.heap.size w w3) := (BW.out.alloc BW.out.size _).trans hb
  clear ho hb
  go_wp2_with fail
  refine (oneR_of w.heap.size _ 5 1 (vfR nLD ksC 3 2 ini0) 4 1 _ _ _ _ (ownsRow_below OW.out ((Below.refl _ _).alloc (Nat.le_refl _) _)) (Nat.le_trans BW.out.size (by simp)) BW.out.size (heap_alloc_last _ _) (fun i hi => by
    match i, hi with
    | 0, _ => rfl) (by decide) (fun i hi => by
    match i, hi with
    | 0, _ => exact ⟨rfl, rfl, rfl⟩)).mono ?_
  rintro e w4 ⟨x4, rfl, ho, hb⟩
  have OW : Hid (w4.ownsRow w.heap.size 59 16 x4 6 (vrL 6 (vfR nLD ksC 3 2 ini0))) := ho
  have BW : Hid (Below w.heap.size w w4) := (BW.out.alloc BW.out.size _).trans hb
  clear ho hb
  go_wp2
  obtain ⟨g, c, rfl, hg, hr⟩ := own_vars OW.out (by decide)
  go_ret
  exact ⟨g, c, rfl, hg, hr, BW.out⟩
set_option maxRecDepth 20000 in
set_option maxHeartbeats 4000000 in
theorem VarsR_7 (w : World) : Calls Tryd.prog 14 #[.int .i64 7] w fun e w' => ∃ g c, e = .returned (.slice (some ⟨g, 0, none⟩) 10 c) ∧ w.heap.size ≤ g ∧ VrAt w' g 10 (vfR nLB ksB 5 3 ini0) ∧ Below w.heap.size w w' := by
  have OW : Hid (w.ownsRow w.heap.size 59 16 (.slice none 0 0) 0 (vrL 0 (vfR nLB ksB 5 3 ini0))) := ⟨rfl, .inl ⟨rfl, rfl⟩⟩
  have BW : Hid (Below w.heap.size w w) := Below.refl _ _
  go_enter Tryd.func14, Tryd.ntmps14
  go_wp2_with fail
  refine (oneR_of w.heap.size _ 0 4 (vfR nLB ksB 5 3 ini0) 1 1 _ _ _ _ (ownsRow_below OW.out ((Below.refl _ _).alloc (Nat.le_refl _) _)) (Nat.le_trans BW.out.size (by simp)) BW.out.size (heap_alloc_last _ _) (fun i hi => by
    match i, hi with
    | 0, _ => rfl
    | 1, _ => rfl
    | 2, _ => rfl
    | 3, _ => rfl) (by decide) (fun i hi => by
    match i, hi with
    | 0, _ => exact ⟨rfl, rfl, rfl⟩
    | 1, _ => exact ⟨rfl, rfl, rfl⟩
    | 2, _ => exact ⟨rfl, rfl, rfl⟩
    | 3, _ => exact ⟨rfl, rfl, rfl⟩)).mono ?_
  rintro e w0 ⟨x0, rfl, ho, hb⟩
  have OW : Hid (w0.ownsRow w.heap.size 59 16 x0 4 (vrL 4 (vfR nLB ksB 5 3 ini0))) := ho
  have BW : Hid (Below w.heap.size w w0) := (BW.out.alloc BW.out.size _).trans hb
  clear ho hb
  go_wp2_with fail
  refine (oneR_of w.heap.size _ 4 1 (vfR nLB ksB 5 3 ini0) 1 3 _ _ _ _ (ownsRow_below OW.out ((Below.refl _ _).alloc (Nat.le_refl _) _)) (Nat.le_trans BW.out.size (by simp)) BW.out.size (heap_alloc_last _ _) (fun i hi => by
    match i, hi with
    | 0, _ => rfl) (by decide) (fun i hi => by
    match i, hi with
    | 0, _ => exact ⟨rfl, rfl, rfl⟩)).mono ?_
  rintro e w1 ⟨x1, rfl, ho, hb⟩
  have OW : Hid (w1.ownsRow w.heap.size 59 16 x1 5 (vrL 5 (vfR nLB ksB 5 3 ini0))) := ho
  have BW : Hid (Below w.heap.size w w1) := (BW.out.alloc BW.out.size _).trans hb
  clear ho hb
  go_wp2_with fail
  refine (oneR_of w.heap.size _ 5 2 (vfR nLB ksB 5 3 ini0) 2 1 _ _ _ _ (ownsRow_below OW.out ((Below.refl _ _).alloc (Nat.le_refl _) _)) (Nat.le_trans BW.out.size (by simp)) BW.out.size (heap_alloc_last _ _) (fun i hi => by
    match i, hi with
    | 0, _ => rfl
    | 1, _ => rfl) (by decide) (fun i hi => by
    match i, hi with
    | 0, _ => exact ⟨rfl, rfl, rfl⟩
    | 1, _ => exact ⟨rfl, rfl, rfl⟩)).mono ?_
  rintro e w2 ⟨x2, rfl, ho, hb⟩
  have OW : Hid (w2.ownsRow w.heap.size 59 16 x2 7 (vrL 7 (vfR nLB ksB 5 3 ini0))) := ho
  have BW : Hid (Below w.heap.size w w2) := (BW.out.alloc BW.out.size _).trans hb
  clear ho hb
  go_wp2_with fail
  refine (oneR_of w.heap.size _ 7 1 (vfR nLB ksB 5 3 ini0) 2 3 _ _ _ _ (ownsRow_below OW.out ((Below.refl _ _).alloc (Nat.le_refl _) _)) (Nat.le_trans BW.out.size (by simp)) BW.out.size (heap_alloc_last _ _) (fun i hi => by
    match i, hi with
    | 0, _ => rfl) (by decide) (fun i hi => by
    match i, hi with
    | 0, _ => exact ⟨rfl, rfl, rfl⟩)).mono ?_
  rintro e w3 ⟨x3, rfl, ho, hb⟩
  have OW : Hid (w3.ownsRow w.heap.size 59 16 x3 8 (vrL 8 (vfR nLB ksB 5 3 ini0))) := ho
  have BW : Hid (Below w.heap.size w w3) := (BW.out.alloc BW.out.size _).trans hb
  clear ho hb
  go_wp2_with fail
  refine (oneR_of w.heap.size _ 8 2 (vfR nLB ksB 5 3 ini0) 4 1 _ _ _ _ (ownsRow_below OW.out ((Below.refl _ _).alloc (Nat.le_refl _) _)) (Nat.le_trans BW.out.size (by simp)) BW.out.size (heap_alloc_last _ _) (fun i hi => by
    match i, hi with
    | 0, _ => rfl
    | 1, _ => rfl) (by decide) (fun i hi => by
    match i, hi with
    | 0, _ => exact ⟨rfl, rfl, rfl⟩
    | 1, _ => exact ⟨rfl, rfl, rfl⟩)).mono ?_
  rintro e w4 ⟨x4, rfl, ho, hb⟩
  have OW : Hid (w4.ownsRow w.heap.size 59 16 x4 10 (vrL 10 (vfR nLB ksB 5 3 ini0))) := ho
  have BW : Hid (Below w.heap.size w w4) := (BW.out.alloc BW.out.size _).trans hb
  clear ho hb
  go_wp2
  obtain ⟨g, c, rfl, hg, hr⟩ := own_vars OW.out (by decide)
  go_ret
  exact ⟨g, c, rfl, hg, hr, BW.out⟩
set_option maxRecDepth 20000 in
set_option maxHeartbeats 4000000 in
theorem VarsR_8 (w : World) : Calls Tryd.prog 14 #[.int .i64 8] w fun e w' => ∃ g c, e = .returned (.slice (some ⟨g, 0, none⟩) 6 c) ∧ w.heap.size ≤ g ∧ VrAt w' g 6 (vfR nLT ksT 2 2 ini0) ∧ Below w.heap.size w w' := by
  have OW : Hid (w.ownsRow w.heap.size 59 16 (.slice none 0 0) 0 (vrL 0 (vfR nLT ksT 2 2 ini0))) := ⟨rfl, .inl ⟨rfl, rfl⟩⟩
  have BW : Hid (Below w.heap.size w w) := Below.refl _ _
  go_enter Tryd.func14, Tryd.ntmps14
  go_wp2_with fail
  refine (oneR_of w.heap.size _ 0 1 (vfR nLT ksT 2 2 ini0) 1 1 _ _ _ _ (ownsRow_below OW.out ((Below.refl _ _).alloc (Nat.le_refl _) _)) (Nat.le_trans BW.out.size (by simp)) BW.out.size (heap_alloc_last _ _) (fun i hi => by
    match i, hi with
    | 0, _ => rfl) (by decide) (fun i hi => by
    match i, hi with
    | 0, _ => exact ⟨rfl, rfl, rfl⟩)).mono ?_
  rintro e w0 ⟨x0, rfl, ho, hb⟩
  have OW : Hid (w0.ownsRow w.heap.size 59 16 x0 1 (vrL 1 (vfR nLT ksT 2 2 ini0))) := ho
  have BW : Hid (Below w.heap.size w w0) := (BW.out.alloc BW.out.size _).trans hb
  clear ho hb
  go_wp2_with fail
  refine (oneR_of w.heap.size _ 1 1 (vfR nLT ksT 2 2 ini0) 1 14 _ _ _ _ (ownsRow_below OW.out ((Below.refl _ _).alloc (Nat.le_refl _) _)) (Nat.le_trans BW.out.size (by simp)) BW.out.size (heap_alloc_last _ _) (fun i hi => by
    match i, hi with
    | 0, _ => rfl) (by decide) (fun i hi => by
    match i, hi with
    | 0, _ => exact ⟨rfl, rfl, rfl⟩)).mono ?_
  rintro e w1 ⟨x1, rfl, ho, hb⟩
  have OW : Hid (w1.ownsRow w.heap.size 59 16 x1 2 (vrL 2 (vfR nLT ksT 2 2 ini0))) := ho
  have BW : Hid (Below w.heap.size w w1) := (BW.out.alloc BW.out.size _).trans hb
  clear ho hb
  go_wp2_with fail
  refine (oneR_of w.heap.size _ 2 1 (vfR nLT ksT 2 2 ini0) 2 1 _ _ _ _ (ownsRow_below OW.out ((Below.refl _ _).alloc (Nat.le_refl _) _)) (Nat.le_trans BW.out.size (by simp)) BW.out.size (heap_alloc_last _ _) (fun i hi => by
    match i, hi with
    | 0, _ => rfl) (by decide) (fun i hi => by
    match i, hi with
    | 0, _ => exact ⟨rfl, rfl, rfl⟩)).mono ?_
  rintro e w2 ⟨x2, rfl, ho, hb⟩
  have OW : Hid (w2.ownsRow w.heap.size 59 16 x2 3 (vrL 3 (vfR nLT ksT 2 2 ini0))) := ho
  have BW : Hid (Below w.heap.size w w2) := (BW.out.alloc BW.out.size _).trans hb
  clear ho hb
  go_wp2_with fail
  refine (oneR_of w.heap.size _ 3 1 (vfR nLT ksT 2 2 ini0) 2 14 _ _ _ _ (ownsRow_below OW.out ((Below.refl _ _).alloc (Nat.le_refl _) _)) (Nat.le_trans BW.out.size (by simp)) BW.out.size (heap_alloc_last _ _) (fun i hi => by
    match i, hi with
    | 0, _ => rfl) (by decide) (fun i hi => by
    match i, hi with
    | 0, _ => exact ⟨rfl, rfl, rfl⟩)).mono ?_
  rintro e w3 ⟨x3, rfl, ho, hb⟩
  have OW : Hid (w3.ownsRow w.heap.size 59 16 x3 4 (vrL 4 (vfR nLT ksT 2 2 ini0))) := ho
  have BW : Hid (Below w.heap.size w w3) := (BW.out.alloc BW.out.size _).trans hb
  clear ho hb
  go_wp2_with fail
  refine (oneR_of w.heap.size _ 4 1 (vfR nLT ksT 2 2 ini0) 4 1 _ _ _ _ (ownsRow_below OW.out ((Below.refl _ _).alloc (Nat.le_refl _) _)) (Nat.le_trans BW.out.size (by simp)) BW.out.size (heap_alloc_last _ _) (fun i hi => by
    match i, hi with
    | 0, _ => rfl) (by decide) (fun i hi => by
    match i, hi with
    | 0, _ => exact ⟨rfl, rfl, rfl⟩)).mono ?_
  rintro e w4 ⟨x4, rfl, ho, hb⟩
  have OW : Hid (w4.ownsRow w.heap.size 59 16 x4 5 (vrL 5 (vfR nLT ksT 2 2 ini0))) := ho
  have BW : Hid (Below w.heap.size w w4) := (BW.out.alloc BW.out.size _).trans hb
  clear ho hb
  go_wp2_with fail
  refine (oneR_of w.heap.size _ 5 1 (vfR nLT ksT 2 2 ini0) 4 14 _ _ _ _ (ownsRow_below OW.out ((Below.refl _ _).alloc (Nat.le_refl _) _)) (Nat.le_trans BW.out.size (by simp)) BW.out.size (heap_alloc_last _ _) (fun i hi => by
    match i, hi with
    | 0, _ => rfl) (by decide) (fun i hi => by
    match i, hi with
    | 0, _ => exact ⟨rfl, rfl, rfl⟩)).mono ?_
  rintro e w5 ⟨x5, rfl, ho, hb⟩
  have OW : Hid (w5.ownsRow w.heap.size 59 16 x5 6 (vrL 6 (vfR nLT ksT 2 2 ini0))) := ho
  have BW : Hid (Below w.heap.size w w5) := (BW.out.alloc BW.out.size _).trans hb
  clear ho hb
  go_wp2
  obtain ⟨g, c, rfl, hg, hr⟩ := own_vars OW.out (by decide)
  go_ret
  exact ⟨g, c, rfl, hg, hr, BW.out⟩
set_option maxRecDepth 20000 in
set_option maxHeartbeats 4000000 in
theorem VarsR_9 (w : World) : Calls Tryd.prog 14 #[.int .i64 9] w fun e w' => ∃ g c, e = .returned (.slice (some ⟨g, 0, none⟩) 6 c) ∧ w.heap.size ≤ g ∧ VrAt w' g 6 (vfR nLT ksT 2 2 ini0) ∧ Below w.heap.size w w' := by
  have OW : Hid (w.ownsRow w.heap.size 59 16 (.slice none 0 0) 0 (vrL 0 (vfR nLT ksT 2 2 ini0))) := ⟨rfl, .inl ⟨rfl, rfl⟩⟩
  have BW : Hid (Below w.heap.size w w) := Below.refl _ _
  go_enter Tryd.func14, Tryd.ntmps14
  go_wp2_with fail
  refine (oneR_of w.heap.size _ 0 1 (vfR nLT ksT 2 2 ini0) 1 1 _ _ _ _ (ownsRow_below OW.out ((Below.refl _ _).alloc (Nat.le_refl _) _)) (Nat.le_trans BW.out.size (by simp)) BW.out.size (heap_alloc_last _ _) (fun i hi => by
    match i, hi with
    | 0, _ => rfl) (by decide) (fun i hi => by
    match i, hi with
    | 0, _ => exact ⟨rfl, rfl, rfl⟩)).mono ?_
  rintro e w0 ⟨x0, rfl, ho, hb⟩
  have OW : Hid (w0.ownsRow w.heap.size 59 16 x0 1 (vrL 1 (vfR nLT ksT 2 2 ini0))) := ho
  have BW : Hid (Below w.heap.size w w0) := (BW.out.alloc BW.out.size _).trans hb
  clear ho hb
  go_wp2_with fail
  refine (oneR_of w.heap.size _ 1 1 (vfR nLT ksT 2 2 ini0) 1 14 _ _ _ _ (ownsRow_below OW.out ((Below.refl _ _).alloc (Nat.le_refl _) _)) (Nat.le_trans BW.out.size (by simp)) BW.out.size (heap_alloc_last _ _) (fun i hi => by
    match i, hi with
    | 0, _ => rfl) (by decide) (fun i hi => by
    match i, hi with
    | 0, _ => exact ⟨rfl, rfl, rfl⟩)).mono ?_
  rintro e w1 ⟨x1, rfl, ho, hb⟩
  have OW : Hid (w1.ownsRow w.heap.size 59 16 x1 2 (vrL 2 (vfR nLT ksT 2 2 ini0))) := ho
  have BW : Hid (Below w.heap.size w w1) := (BW.out.alloc BW.out.size _).trans hb
  clear ho hb
  go_wp2_with fail
  refine (oneR_of w.heap.size _ 2 1 (vfR nLT ksT 2 2 ini0) 2 1 _ _ _ _ (ownsRow_below OW.out ((Below.refl _ _).alloc (Nat.le_refl _) _)) (Nat.le_trans BW.out.size (by simp)) BW.out.size (heap_alloc_last _ _) (fun i hi => by
    match i, hi with
    | 0, _ => rfl) (by decide) (fun i hi => by
    match i, hi with
    | 0, _ => exact ⟨rfl, rfl, rfl⟩)).mono ?_
  rintro e w2 ⟨x2, rfl, ho, hb⟩
  have OW : Hid (w2.ownsRow w.heap.size 59 16 x2 3 (vrL 3 (vfR nLT ksT 2 2 ini0))) := ho
  have BW : Hid (Below w.heap.size w w2) := (BW.out.alloc BW.out.size _).trans hb
  clear ho hb
  go_wp2_with fail
  refine (oneR_of w.heap.size _ 3 1 (vfR nLT ksT 2 2 ini0) 2 14 _ _ _ _ (ownsRow_below OW.out ((Below.refl _ _).alloc (Nat.le_refl _) _)) (Nat.le_trans BW.out.size (by simp)) BW.out.size (heap_alloc_last _ _) (fun i hi => by
    match i, hi with
    | 0, _ => rfl) (by decide) (fun i hi => by
    match i, hi with
    | 0, _ => exact ⟨rfl, rfl, rfl⟩)).mono ?_
  rintro e w3 ⟨x3, rfl, ho, hb⟩
  have OW : Hid (w3.ownsRow w.heap.size 59 16 x3 4 (vrL 4 (vfR nLT ksT 2 2 ini0))) := ho
  have BW : Hid (Below w.heap.size w w3) := (BW.out.alloc BW.out.size _).trans hb
  clear ho hb
  go_wp2_with fail
  refine (oneR_of w.heap.size _ 4 1 (vfR nLT ksT 2 2 ini0) 4 1 _ _ _ _ (ownsRow_below OW.out ((Below.refl _ _).alloc (Nat.le_refl _) _)) (Nat.le_trans BW.out.size (by simp)) BW.out.size (heap_alloc_last _ _) (fun i hi => by
    match i, hi with
    | 0, _ => rfl) (by decide) (fun i hi => by
    match i, hi with
    | 0, _ => exact ⟨rfl, rfl, rfl⟩)).mono ?_
  rintro e w4 ⟨x4, rfl, ho, hb⟩
  have OW : Hid (w4.ownsRow w.heap.size 59 16 x4 5 (vrL 5 (vfR nLT ksT 2 2 ini0))) := ho
  have BW : Hid (Below w.heap.size w w4) := (BW.out.alloc BW.out.size _).trans hb
  clear ho hb
  go_wp2_with fail
  refine (oneR_of w.heap.size _ 5 1 (vfR nLT ksT 2 2 ini0) 4 14 _ _ _ _ (ownsRow_below OW.out ((Below.refl _ _).alloc (Nat.le_refl _) _)) (Nat.le_trans BW.out.size (by simp)) BW.out.size (heap_alloc_last _ _) (fun i hi => by
    match i, hi with
    | 0, _ => rfl) (by decide) (fun i hi => by
    match i, hi with
    | 0, _ => exact ⟨rfl, rfl, rfl⟩)).mono ?_
  rintro e w5 ⟨x5, rfl, ho, hb⟩
  have OW : Hid (w5.ownsRow w.heap.size 59 16 x5 6 (vrL 6 (vfR nLT ksT 2 2 ini0))) := ho
  have BW : Hid (Below w.heap.size w w5) := (BW.out.alloc BW.out.size _).trans hb
  clear ho hb
  go_wp2
  obtain ⟨g, c, rfl, hg, hr⟩ := own_vars OW.out (by decide)
  go_ret
  exact ⟨g, c, rfl, hg, hr, BW.out⟩
set_option maxRecDepth 20000 in
set_option maxHeartbeats 4000000 in
theorem VarsR_10 (w : World) : Calls Tryd.prog 14 #[.int .i64 10] w fun e w' => ∃ g c, e = .returned (.slice (some ⟨g, 0, none⟩) 6 c) ∧ w.heap.size ≤ g ∧ VrAt w' g 6 (vfR nLT ksT 2 2 ini0) ∧ Below w.heap.size w w' := by
  have OW : Hid (w.ownsRow w.heap.size 59 16 (.slice none 0 0) 0 (vrL 0 (vfR nLT ksT 2 2 ini0))) := ⟨rfl, .inl ⟨rfl, rfl⟩⟩
  have BW : Hid (Below w.heap.size w w) := Below.refl _ _
  go_enter Tryd.func14, Tryd.ntmps14
  go_wp2_with fail
  refine (oneR_of w.heap.size _ 0 1 (vfR nLT ksT 2 2 ini0) 1 1 _ _ _ _ (ownsRow_below OW.out ((Below.refl _ _).alloc (Nat.le_refl _) _)) (Nat.le_trans BW.out.size (by simp)) BW.out.size (heap_alloc_last _ _) (fun i hi => by
    match i, hi with
    | 0, _ => rfl) (by decide) (fun i hi => by
    match i, hi with
    | 0, _ => exact ⟨rfl, rfl, rfl⟩)).mono ?_
  rintro e w0 ⟨x0, rfl, ho, hb⟩
  have OW : Hid (w0.ownsRow w.heap.size 59 16 x0 1 (vrL 1 (vfR nLT ksT 2 2 ini0))) := ho
  have BW : Hid (Below w.heap.size w w0) := (BW.out.alloc BW.out.size _).trans hb
  clear ho hb
  go_wp2_with fail
  refine (oneR_of w.heap.size _ 1 1 (vfR nLT ksT 2 2 ini0) 1 14 _ _ _ _ (ownsRow_below OW.out ((Below.refl _ _).alloc (Nat.le_refl _) _)) (Nat.le_trans BW.out.size (by simp)) BW.out.size (heap_alloc_last _ _) (fun i hi => by
    match i, hi with
    | 0, _ => rfl) (by decide) (fun i hi => by
    match i, hi with
    | 0, _ => exact ⟨rfl, rfl, rfl⟩)).mono ?_
  rintro e w1 ⟨x1, rfl, ho, hb⟩
  have OW : Hid (w1.ownsRow w.heap.size 59 16 x1 2 (vrL 2 (vfR nLT ksT 2 2 ini0))) := ho
  have BW : Hid (Below w.heap.size w w1) := (BW.out.alloc BW.out.size _).trans hb
  clear ho hb
  go_wp2_with fail
  refine (oneR_of w.heap.size _ 2 1 (vfR nLT ksT 2 2 ini0) 2 1 _ _ _ _ (ownsRow_below OW.out ((Below.refl _ _).alloc (Nat.le_refl _) _)) (Nat.le_trans BW.out.size (by simp)) BW.out.size (heap_alloc_last _ _) (fun i hi => by
    match i, hi with
    | 0, _ => rfl) (by decide) (fun i hi => by
    match i, hi with
    | 0, _ => exact ⟨rfl, rfl, rfl⟩)).mono ?_
  rintro e w2 ⟨x2, rfl, ho, hb⟩
  have OW : Hid (w2.ownsRow w.heap.size 59 16 x2 3 (vrL 3 (vfR nLT ksT 2 2 ini0))) := ho
  have BW : Hid (Below w.heap.size w w2) := (BW.out.alloc BW.out.size _).trans hb
  clear ho hb
  go_wp2_with fail
  refine (oneR_of w.heap.size _ 3 1 (vfR nLT ksT 2 2 ini0) 2 14 _ _ _ _ (ownsRow_below OW.out ((Below.refl _ _).alloc (Nat.le_refl _) _)) (Nat.le_trans BW.out.size (by simp)) BW.out.size (heap_alloc_last _ _) (fun i hi => by
    match i, hi with
    | 0, _ => rfl) (by decide) (fun i hi => by
    match i, hi with
    | 0, _ => exact ⟨rfl, rfl, rfl⟩)).mono ?_
  rintro e w3 ⟨x3, rfl, ho, hb⟩
  have OW : Hid (w3.ownsRow w.heap.size 59 16 x3 4 (vrL 4 (vfR nLT ksT 2 2 ini0))) := ho
  have BW : Hid (Below w.heap.size w w3) := (BW.out.alloc BW.out.size _).trans hb
  clear ho hb
  go_wp2_with fail
  refine (oneR_of w.heap.size _ 4 1 (vfR nLT ksT 2 2 ini0) 4 1 _ _ _ _ (ownsRow_below OW.out ((Below.refl _ _).alloc (Nat.le_refl _) _)) (Nat.le_trans BW.out.size (by simp)) BW.out.size (heap_alloc_last _ _) (fun i hi => by
    match i, hi with
    | 0, _ => rfl) (by decide) (fun i hi => by
    match i, hi with
    | 0, _ => exact ⟨rfl, rfl, rfl⟩)).mono ?_
  rintro e w4 ⟨x4, rfl, ho, hb⟩
  have OW : Hid (w4.ownsRow w.heap.size 59 16 x4 5 (vrL 5 (vfR nLT ksT 2 2 ini0))) := ho
  have BW : Hid (Below w.heap.size w w4) := (BW.out.alloc BW.out.size _).trans hb
  clear ho hb
  go_wp2_with fail
  refine (oneR_of w.heap.size _ 5 1 (vfR nLT ksT 2 2 ini0) 4 14 _ _ _ _ (ownsRow_below OW.out ((Below.refl _ _).alloc (Nat.le_refl _) _)) (Nat.le_trans BW.out.size (by simp)) BW.out.size (heap_alloc_last _ _) (fun i hi => by
    match i, hi with
    | 0, _ => rfl) (by decide) (fun i hi => by
    match i, hi with
    | 0, _ => exact ⟨rfl, rfl, rfl⟩)).mono ?_
  rintro e w5 ⟨x5, rfl, ho, hb⟩
  have OW : Hid (w5.ownsRow w.heap.size 59 16 x5 6 (vrL 6 (vfR nLT ksT 2 2 ini0))) := ho
  have BW : Hid (Below w.heap.size w w5) := (BW.out.alloc BW.out.size _).trans hb
  clear ho hb
  go_wp2
  obtain ⟨g, c, rfl, hg, hr⟩ := own_vars OW.out (by decide)
  go_ret
  exact ⟨g, c, rfl, hg, hr, BW.out⟩
end Go.Proofs.YtjnegbjgogkamaaDoor
