/- Two lists of variables compared; no statement of the seat is proved here. -/
import Derived.Test.YtjnegbjgogkamaaDoorBlkJ
import Derived.Test.YtjnegbjgogkamaaDoorBlkK
import Derived.Test.YtjnegbjgogkamaaDoorRfQ
import Derived.Deep.RegionHeld3
import Derived.Deep.DeepCutAuto
namespace Go.Proofs.YtjnegbjgogkamaaDoor
set_option linter.unusedVariables false
open Go.RowKit
theorem put_none {a : Act} {d : Option Tmp} {v : Value} (h : d = none) : a.put d v = a := by subst h; rfl
theorem there_of {w : World} {h : Nat} {A : Array Value} {t : TypeId} (e : w.heap[h]? = some (.cells A t (0, 0))) (hs : A.size = 16) : w.there h 0 16 := by
  intro j hj
  exact ⟨by simp only [World.cell?, e]; simp; omega, by simp [World.frozen?, e]⟩
theorem there2 (w : World) (A : Array Value) (t : TypeId) (hA : A.size = 16) : ((w.alloc (.cells A t)).alloc (.cells A t)).there w.heap.size 0 16 ∧ ((w.alloc (.cells A t)).alloc (.cells A t)).there (w.heap.size + 1) 0 16 := by
  refine ⟨there_of ((((Below.refl _ _).alloc (Nat.le_refl _) _).block w.heap.size (by simp)).trans (heap_alloc_last w _)) hA, there_of (A := A) (t := t) ?_ hA⟩
  have := heap_alloc_last (w.alloc (.cells A t)) (.cells A t)
  rwa [World.size_alloc] at this
theorem bl_two (w : World) (o p : Obj) : Below w.heap.size w ((w.alloc o).alloc p) := ((Below.refl _ _).alloc (Nat.le_refl _) _).alloc (by simp) _
theorem bl_set {B : Nat} {a w : World} (h : Below B a w) {b : Nat} (hb : B ≤ b) (o : Nat) (vs : List Value) : Below B a (w.setCells b o vs) := by
  induction vs generalizing o w with
  | nil => exact h
  | cons v vs ih => exact ih (h.setCell hb v) (o + 1)
theorem vb_range {w : World} {h : Nat} {nm : ByteArray} {cl kd : Int} {ini : Value} (r : w.rangeAt h 0 [.string nm, .int .i64 0, .int .i64 cl, .int .u8 kd, .bool false, .int .i64 0, .int .i64 0, .int .i64 0, .bool false, .int .i64 0, .int .i64 0, .string ⟨#[]⟩, ini, .bool false, .bool false, .string ⟨#[]⟩]) : VbAt w h nm cl kd ini :=
  ⟨by simpa using r 0 _ rfl, by simpa using r 1 _ rfl, by simpa using r 2 _ rfl, by simpa using r 3 _ rfl, by simpa using r 4 _ rfl, by simpa using r 5 _ rfl, by simpa using r 6 _ rfl, by simpa using r 7 _ rfl, by simpa using r 8 _ rfl, by simpa using r 9 _ rfl, by simpa using r 10 _ rfl, by simpa using r 11 _ rfl, by simpa using r 12 _ rfl, by simpa using r 13 _ rfl, by simpa using r 14 _ rfl, by simpa using r 15 _ rfl⟩
theorem vb_below {w w' : World} {h : Nat} {nm : ByteArray} {cl kd : Int} {ini : Value} (v : VbAt w h nm cl kd ini) (hb : Below w.heap.size w w') : VbAt w' h nm cl kd ini := by
  have z : h < w.heap.size := block_lt_of_cell v.c0
  exact ⟨(hb.cell (p := ⟨h, 0, none⟩) z).trans v.c0, (hb.cell (p := ⟨h, 1, none⟩) z).trans v.c1, (hb.cell (p := ⟨h, 2, none⟩) z).trans v.c2, (hb.cell (p := ⟨h, 3, none⟩) z).trans v.c3, (hb.cell (p := ⟨h, 4, none⟩) z).trans v.c4, (hb.cell (p := ⟨h, 5, none⟩) z).trans v.c5, (hb.cell (p := ⟨h, 6, none⟩) z).trans v.c6, (hb.cell (p := ⟨h, 7, none⟩) z).trans v.c7, (hb.cell (p := ⟨h, 8, none⟩) z).trans v.c8, (hb.cell (p := ⟨h, 9, none⟩) z).trans v.c9, (hb.cell (p := ⟨h, 10, none⟩) z).trans v.c10, (hb.cell (p := ⟨h, 11, none⟩) z).trans v.c11, (hb.cell (p := ⟨h, 12, none⟩) z).trans v.c12, (hb.cell (p := ⟨h, 13, none⟩) z).trans v.c13, (hb.cell (p := ⟨h, 14, none⟩) z).trans v.c14, (hb.cell (p := ⟨h, 15, none⟩) z).trans v.c15⟩
set_option maxRecDepth 20000 in
set_option maxHeartbeats 16000000 in
theorem SameVars_of (g g' n c c' : Nat) (vf vf' : VrF) (w : World) (hn : n ≤ 100) (hv : VrAt w g n vf) (hv' : VrAt w g' n vf') (hs : ∀ i, i < n → ∃ x y m l, vf.ini i = .slice x m l ∧ vf'.ini i = .slice y m l ∧ (m = 0 ∨ ∃ a b v, x = some a ∧ y = some b ∧ VsAt w a m v ∧ VsAt w b m v ∧ m ≤ 100)) (he : ∀ i, i < n → vf'.nm i = vf.nm i ∧ vf'.cl i = vf.cl i ∧ vf'.kd i = vf.kd i) :
    Calls Tryd.prog 12 #[.slice (some ⟨g, 0, none⟩) n c, .slice (some ⟨g', 0, none⟩) n c'] w fun e w' => e = .returned (.bool true) ∧ Below w.heap.size w w' := by
  have HV : Hid (VrAt w g n vf) := hv
  have HV' : Hid (VrAt w g' n vf') := hv'
  have HS : Hid (∀ i, i < n → ∃ x y m l, vf.ini i = .slice x m l ∧ vf'.ini i = .slice y m l ∧ (m = 0 ∨ ∃ a b v, x = some a ∧ y = some b ∧ VsAt w a m v ∧ VsAt w b m v ∧ m ≤ 100)) := hs
  have HE : Hid (∀ i, i < n → vf'.nm i = vf.nm i ∧ vf'.cl i = vf.cl i ∧ vf'.kd i = vf.kd i) := he
  clear hv hv' hs he
  go_enter Tryd.func12, Tryd.ntmps12
  go_wp2_with fail
  go_loopw [15] (fun i wr => ∃ k : Nat, k ≤ n ∧ i = .int .i64 k ∧ Below w.heap.size w wr) (fun i _ => n - (intOf i).toNat)
  case atStart => exact ⟨0, Nat.zero_le _, rfl, Below.refl _ _⟩
  case round =>
    obtain ⟨k, hk, rfl, hb⟩ := hrel
    have HB : Hid (Below w.heap.size w wr) := hb
    by_cases hlt : k < n
    · obtain ⟨x, y, m, l, i1, i2, i3⟩ := HS.out k hlt
      have h1 := (HV.out.below hb).cells k hlt
      have h2 := (HV'.out.below hb).cells k hlt
      rw [i1] at h1
      rw [i2] at h2
      obtain ⟨e0, e1, e2, e3, e4, e5, e6, e7, e8, e9, e10, e11, e12, e13, e14, e15⟩ := h1
      obtain ⟨f0, f1, f2, f3, f4, f5, f6, f7, f8, f9, f10, f11, f12, f13, f14, f15⟩ := h2
      have hlt' : (k : Int) < n := by omega
      have zg : g < wr.heap.size := block_lt_of_cell e0
      have zg' : g' < wr.heap.size := block_lt_of_cell f0
      have I1 : Hid (vf.ini k = .slice x m l) := i1
      have I2 : Hid (vf'.ini k = .slice y m l) := i2
      have I3 : Hid (m = 0 ∨ ∃ a b v, x = some a ∧ y = some b ∧ VsAt w a m v ∧ VsAt w b m v ∧ m ≤ 100) := i3
      clear hb i1 i2 i3
      go_upto_region 6 with fail
      go_cut [6, 7] (fun s6 s7 wx => ∃ h h', s6 = .pointer (some ⟨h, 0, none⟩) ∧ s7 = .pointer (some ⟨h', 0, none⟩) ∧ VbAt wx h (vf.nm k) (vf.cl k) (vf.kd k) (.slice x m l) ∧ VbAt wx h' (vf'.nm k) (vf'.cl k) (vf'.kd k) (.slice y m l) ∧ wr.heap.size ≤ h ∧ wr.heap.size ≤ h' ∧ Below wr.heap.size wr wx)
      case first =>
        have cx : ∀ W : World, Below wr.heap.size wr W → ∀ o, W.cell? ⟨g, o, none⟩ = wr.cell? ⟨g, o, none⟩ := fun W hb o => hb.cell (p := ⟨g, o, none⟩) zg
        have cx' : ∀ W : World, Below wr.heap.size wr W → ∀ o, W.cell? ⟨g', o, none⟩ = wr.cell? ⟨g', o, none⟩ := fun W hb o => hb.cell (p := ⟨g', o, none⟩) zg'
        refine wp_region_held_drew (S := fun w' => Below wr.heap.size wr w') (by kernel_rfl) ((Below.refl _ _).drew) (fun hHeld => ?_)
        refine wpAnyH_take (i := 0) (v := .slice (some ⟨g, 0, none⟩) n c) rfl (by kernel_rfl) (by kernel_rfl) (by kernel_rfl) (fun _ _ _ h => h) (Or.inl ⟨by rfl, fun W hW => ?_⟩) hHeld ?_
        · go_simp
        simp only [Act.put, List.setIfInBounds_toArray]
        refine wpAnyH_take (i := 1) (v := .int .i64 k) rfl (by kernel_rfl) (by kernel_rfl) (by kernel_rfl) (fun _ _ _ h => h) (Or.inl ⟨by rfl, fun W hW => ?_⟩) hHeld ?_
        · go_simp
        simp only [Act.put]
        refine wpAnyH_take (i := 2) (v := .pointer (some ⟨g, k * 16, none⟩)) rfl (by kernel_rfl) (by kernel_rfl) (by kernel_rfl) (fun _ _ _ h => h) (Or.inl ⟨by rfl, fun W hW => ?_⟩) hHeld ?_
        · go_simp
        simp only [Act.put]
        refine wpAnyH_take (i := 3) (v := .agg ([.string (vf.nm k), .int .i64 0, .int .i64 (vf.cl k), .int .u8 (vf.kd k), .bool false, .int .i64 0, .int .i64 0, .int .i64 0, .bool false, .int .i64 0, .int .i64 0, .string ⟨#[]⟩, .slice x m l, .bool false, .bool false, .string ⟨#[]⟩] : List Value).toArray) rfl (by kernel_rfl) (by kernel_rfl) (by kernel_rfl) (fun _ _ _ h => h) (Or.inl ⟨by rfl, fun W hW => ?_⟩) hHeld ?_
        · go_simp
        simp only [Act.put]
        refine wpAnyH_take (i := 4) (v := .slice (some ⟨g', 0, none⟩) n c') rfl (by kernel_rfl) (by kernel_rfl) (by kernel_rfl) (fun _ _ _ h => h) (Or.inl ⟨by rfl, fun W hW => ?_⟩) hHeld ?_
        · go_simp
        simp only [Act.put]
        refine wpAnyH_take (i := 5) (v := .int .i64 k) rfl (by kernel_rfl) (by kernel_rfl) (by kernel_rfl) (fun _ _ _ h => h) (Or.inl ⟨by rfl, fun W hW => ?_⟩) hHeld ?_
        · go_simp
        simp only [Act.put]
        refine wpAnyH_take (i := 6) (v := .pointer (some ⟨g', k * 16, none⟩)) rfl (by kernel_rfl) (by kernel_rfl) (by kernel_rfl) (fun _ _ _ h => h) (Or.inl ⟨by rfl, fun W hW => ?_⟩) hHeld ?_
        · go_simp
        simp only [Act.put]
        refine wpAnyH_take (i := 7) (v := .agg ([.string (vf'.nm k), .int .i64 0, .int .i64 (vf'.cl k), .int .u8 (vf'.kd k), .bool false, .int .i64 0, .int .i64 0, .int .i64 0, .bool false, .int .i64 0, .int .i64 0, .string ⟨#[]⟩, .slice y m l, .bool false, .bool false, .string ⟨#[]⟩] : List Value).toArray) rfl (by kernel_rfl) (by kernel_rfl) (by kernel_rfl) (fun _ _ _ h => h) (Or.inl ⟨by rfl, fun W hW => ?_⟩) hHeld ?_
        · go_simp
        simp only [Act.put]
        refine wpAnyH_ready (rs := [8, 9]) (by kernel_rfl) (by simp) ?_
        refine AllReadyH.cons (o := _) rfl (fun K hK => ?_) (AllReadyH.cons (o := _) rfl (fun K hK => ?_) AllReadyH.nil)
        · go_simp
          refine hK.out _ _ (by go_grown) (fun hHeld => ?_)
          clear hK K
          refine wpAnyH_ready (rs := [9]) (by kernel_rfl) (by simp) ?_
          refine AllReadyH.cons (o := _) rfl (fun K hK => ?_) AllReadyH.nil
          go_simp
          refine hK.out _ _ (by go_grown) (fun hHeld => ?_)
          clear hK K
          have T1 : ((wr.alloc (.cells #[.string ⟨#[]⟩, .int .i64 0, .int .i64 0, .int .u8 0, .bool false, .int .i64 0, .int .i64 0, .int .i64 0, .bool false, .int .i64 0, .int .i64 0, .string ⟨#[]⟩, .slice none 0 0, .bool false, .bool false, .string ⟨#[]⟩] 59)).alloc (.cells #[.string ⟨#[]⟩, .int .i64 0, .int .i64 0, .int .u8 0, .bool false, .int .i64 0, .int .i64 0, .int .i64 0, .bool false, .int .i64 0, .int .i64 0, .string ⟨#[]⟩, .slice none 0 0, .bool false, .bool false, .string ⟨#[]⟩] 59)).there (wr.heap.size) 0 16 := (there2 wr _ _ rfl).1
          have T2 : ((wr.alloc (.cells #[.string ⟨#[]⟩, .int .i64 0, .int .i64 0, .int .u8 0, .bool false, .int .i64 0, .int .i64 0, .int .i64 0, .bool false, .int .i64 0, .int .i64 0, .string ⟨#[]⟩, .slice none 0 0, .bool false, .bool false, .string ⟨#[]⟩] 59)).alloc (.cells #[.string ⟨#[]⟩, .int .i64 0, .int .i64 0, .int .u8 0, .bool false, .int .i64 0, .int .i64 0, .int .i64 0, .bool false, .int .i64 0, .int .i64 0, .string ⟨#[]⟩, .slice none 0 0, .bool false, .bool false, .string ⟨#[]⟩] 59)).there (wr.heap.size + 1) 0 16 := (there2 wr _ _ rfl).2
          have T3 := bl_two wr (.cells #[.string ⟨#[]⟩, .int .i64 0, .int .i64 0, .int .u8 0, .bool false, .int .i64 0, .int .i64 0, .int .i64 0, .bool false, .int .i64 0, .int .i64 0, .string ⟨#[]⟩, .slice none 0 0, .bool false, .bool false, .string ⟨#[]⟩] 59) (.cells #[.string ⟨#[]⟩, .int .i64 0, .int .i64 0, .int .u8 0, .bool false, .int .i64 0, .int .i64 0, .int .i64 0, .bool false, .int .i64 0, .int .i64 0, .string ⟨#[]⟩, .slice none 0 0, .bool false, .bool false, .string ⟨#[]⟩] 59)
          generalize (wr.alloc (.cells #[.string ⟨#[]⟩, .int .i64 0, .int .i64 0, .int .u8 0, .bool false, .int .i64 0, .int .i64 0, .int .i64 0, .bool false, .int .i64 0, .int .i64 0, .string ⟨#[]⟩, .slice none 0 0, .bool false, .bool false, .string ⟨#[]⟩] 59)).alloc (.cells #[.string ⟨#[]⟩, .int .i64 0, .int .i64 0, .int .u8 0, .bool false, .int .i64 0, .int .i64 0, .int .i64 0, .bool false, .int .i64 0, .int .i64 0, .string ⟨#[]⟩, .slice none 0 0, .bool false, .bool false, .string ⟨#[]⟩] 59) = W2 at T1 T2 T3 hHeld ⊢
          refine wpAnyH_ready (rs := [10]) (by kernel_rfl) (by simp) ?_
          refine AllReadyH.cons (o := _) rfl (fun K hK => ?_) AllReadyH.nil
          rw [if_pos (by rfl)]
          refine wp_store_mid 59 _ _ rfl (wr.heap.size) 0 ([.string (vf.nm k), .int .i64 0, .int .i64 (vf.cl k), .int .u8 (vf.kd k), .bool false, .int .i64 0, .int .i64 0, .int .i64 0, .bool false, .int .i64 0, .int .i64 0, .string ⟨#[]⟩, .slice x m l, .bool false, .bool false, .string ⟨#[]⟩] : List Value).toArray rfl rfl ?_ (by kernel_rfl) (all_oneCell_toArray (by intro v hv; simp at hv; rcases hv with rfl | rfl | rfl | rfl | rfl | rfl | rfl | rfl | rfl | rfl | rfl | rfl | rfl | rfl | rfl | rfl <;> rfl)) ?_
          · exact T1
          have R1 := World.rangeAt_setCells_same W2.drew (wr.heap.size) 0 [.string (vf.nm k), .int .i64 0, .int .i64 (vf.cl k), .int .u8 (vf.kd k), .bool false, .int .i64 0, .int .i64 0, .int .i64 0, .bool false, .int .i64 0, .int .i64 0, .string ⟨#[]⟩, .slice x m l, .bool false, .bool false, .string ⟨#[]⟩] T1
          have T4 := World.there_setCells T2 (wr.heap.size) 0 [.string (vf.nm k), .int .i64 0, .int .i64 (vf.cl k), .int .u8 (vf.kd k), .bool false, .int .i64 0, .int .i64 0, .int .i64 0, .bool false, .int .i64 0, .int .i64 0, .string ⟨#[]⟩, .slice x m l, .bool false, .bool false, .string ⟨#[]⟩]
          have B4 := bl_set T3.drew (show wr.heap.size ≤ wr.heap.size by omega) 0 [.string (vf.nm k), .int .i64 0, .int .i64 (vf.cl k), .int .u8 (vf.kd k), .bool false, .int .i64 0, .int .i64 0, .int .i64 0, .bool false, .int .i64 0, .int .i64 0, .string ⟨#[]⟩, .slice x m l, .bool false, .bool false, .string ⟨#[]⟩]
          refine hK.out _ _ B4 (fun hHeld => ?_)
          clear hK K
          change W2.drew.there (wr.heap.size + 1) 0 16 at T2
          replace T4 : (W2.drew.setCells (wr.heap.size) 0 [.string (vf.nm k), .int .i64 0, .int .i64 (vf.cl k), .int .u8 (vf.kd k), .bool false, .int .i64 0, .int .i64 0, .int .i64 0, .bool false, .int .i64 0, .int .i64 0, .string ⟨#[]⟩, .slice x m l, .bool false, .bool false, .string ⟨#[]⟩]).there (wr.heap.size + 1) 0 16 := World.there_setCells T2 (wr.heap.size) 0 [.string (vf.nm k), .int .i64 0, .int .i64 (vf.cl k), .int .u8 (vf.kd k), .bool false, .int .i64 0, .int .i64 0, .int .i64 0, .bool false, .int .i64 0, .int .i64 0, .string ⟨#[]⟩, .slice x m l, .bool false, .bool false, .string ⟨#[]⟩]
          change wpAnyH _ _ _ _ _ _ _ _ (W2.drew.setCells (wr.heap.size) 0 [.string (vf.nm k), .int .i64 0, .int .i64 (vf.cl k), .int .u8 (vf.kd k), .bool false, .int .i64 0, .int .i64 0, .int .i64 0, .bool false, .int .i64 0, .int .i64 0, .string ⟨#[]⟩, .slice x m l, .bool false, .bool false, .string ⟨#[]⟩])
          generalize W2.drew.setCells (wr.heap.size) 0 [.string (vf.nm k), .int .i64 0, .int .i64 (vf.cl k), .int .u8 (vf.kd k), .bool false, .int .i64 0, .int .i64 0, .int .i64 0, .bool false, .int .i64 0, .int .i64 0, .string ⟨#[]⟩, .slice x m l, .bool false, .bool false, .string ⟨#[]⟩] = W3 at R1 T4 B4 hHeld ⊢
          rw [put_none (by rfl)]
          refine wpAnyH_ready (rs := [11]) (by kernel_rfl) (by simp) ?_
          refine AllReadyH.cons (o := _) rfl (fun K hK => ?_) AllReadyH.nil
          rw [if_pos (by rfl)]
          refine wp_store_mid 59 _ _ rfl (wr.heap.size + 1) 0 ([.string (vf'.nm k), .int .i64 0, .int .i64 (vf'.cl k), .int .u8 (vf'.kd k), .bool false, .int .i64 0, .int .i64 0, .int .i64 0, .bool false, .int .i64 0, .int .i64 0, .string ⟨#[]⟩, .slice y m l, .bool false, .bool false, .string ⟨#[]⟩] : List Value).toArray rfl rfl ?_ (by kernel_rfl) (all_oneCell_toArray (by intro v hv; simp at hv; rcases hv with rfl | rfl | rfl | rfl | rfl | rfl | rfl | rfl | rfl | rfl | rfl | rfl | rfl | rfl | rfl | rfl <;> rfl)) ?_
          · exact T4
          have R2 := World.rangeAt_setCells_same W3 (wr.heap.size + 1) 0 [.string (vf'.nm k), .int .i64 0, .int .i64 (vf'.cl k), .int .u8 (vf'.kd k), .bool false, .int .i64 0, .int .i64 0, .int .i64 0, .bool false, .int .i64 0, .int .i64 0, .string ⟨#[]⟩, .slice y m l, .bool false, .bool false, .string ⟨#[]⟩] T4
          have R3 := World.rangeAt_setCells_apart R1 (wr.heap.size + 1) 0 [.string (vf'.nm k), .int .i64 0, .int .i64 (vf'.cl k), .int .u8 (vf'.kd k), .bool false, .int .i64 0, .int .i64 0, .int .i64 0, .bool false, .int .i64 0, .int .i64 0, .string ⟨#[]⟩, .slice y m l, .bool false, .bool false, .string ⟨#[]⟩] (.inl (by omega))
          have B5 := bl_set B4 (show wr.heap.size ≤ wr.heap.size + 1 by omega) 0 [.string (vf'.nm k), .int .i64 0, .int .i64 (vf'.cl k), .int .u8 (vf'.kd k), .bool false, .int .i64 0, .int .i64 0, .int .i64 0, .bool false, .int .i64 0, .int .i64 0, .string ⟨#[]⟩, .slice y m l, .bool false, .bool false, .string ⟨#[]⟩]
          refine hK.out _ _ B5 (fun hHeld => ?_)
          clear hK K
          refine wpAnyH_done (by kernel_rfl) ?_ _
          rw [put_none (by rfl)]
          refine Met.intro ?_
          go_step
          go_meet
          case rel =>
            exact ⟨wr.heap.size, wr.heap.size + 1, rfl, rfl, vb_range R3, vb_range R2, by omega, by omega, B5⟩
        · go_simp
          refine hK.out _ _ (by go_grown) (fun hHeld => ?_)
          clear hK K
          refine wpAnyH_ready (rs := [8]) (by kernel_rfl) (by simp) ?_
          refine AllReadyH.cons (o := _) rfl (fun K hK => ?_) AllReadyH.nil
          go_simp
          refine hK.out _ _ (by go_grown) (fun hHeld => ?_)
          clear hK K
          have T1 : ((wr.alloc (.cells #[.string ⟨#[]⟩, .int .i64 0, .int .i64 0, .int .u8 0, .bool false, .int .i64 0, .int .i64 0, .int .i64 0, .bool false, .int .i64 0, .int .i64 0, .string ⟨#[]⟩, .slice none 0 0, .bool false, .bool false, .string ⟨#[]⟩] 59)).alloc (.cells #[.string ⟨#[]⟩, .int .i64 0, .int .i64 0, .int .u8 0, .bool false, .int .i64 0, .int .i64 0, .int .i64 0, .bool false, .int .i64 0, .int .i64 0, .string ⟨#[]⟩, .slice none 0 0, .bool false, .bool false, .string ⟨#[]⟩] 59)).there (wr.heap.size + 1) 0 16 := (there2 wr _ _ rfl).2
          have T2 : ((wr.alloc (.cells #[.string ⟨#[]⟩, .int .i64 0, .int .i64 0, .int .u8 0, .bool false, .int .i64 0, .int .i64 0, .int .i64 0, .bool false, .int .i64 0, .int .i64 0, .string ⟨#[]⟩, .slice none 0 0, .bool false, .bool false, .string ⟨#[]⟩] 59)).alloc (.cells #[.string ⟨#[]⟩, .int .i64 0, .int .i64 0, .int .u8 0, .bool false, .int .i64 0, .int .i64 0, .int .i64 0, .bool false, .int .i64 0, .int .i64 0, .string ⟨#[]⟩, .slice none 0 0, .bool false, .bool false, .string ⟨#[]⟩] 59)).there (wr.heap.size) 0 16 := (there2 wr _ _ rfl).1
          have T3 := bl_two wr (.cells #[.string ⟨#[]⟩, .int .i64 0, .int .i64 0, .int .u8 0, .bool false, .int .i64 0, .int .i64 0, .int .i64 0, .bool false, .int .i64 0, .int .i64 0, .string ⟨#[]⟩, .slice none 0 0, .bool false, .bool false, .string ⟨#[]⟩] 59) (.cells #[.string ⟨#[]⟩, .int .i64 0, .int .i64 0, .int .u8 0, .bool false, .int .i64 0, .int .i64 0, .int .i64 0, .bool false, .int .i64 0, .int .i64 0, .string ⟨#[]⟩, .slice none 0 0, .bool false, .bool false, .string ⟨#[]⟩] 59)
          generalize (wr.alloc (.cells #[.string ⟨#[]⟩, .int .i64 0, .int .i64 0, .int .u8 0, .bool false, .int .i64 0, .int .i64 0, .int .i64 0, .bool false, .int .i64 0, .int .i64 0, .string ⟨#[]⟩, .slice none 0 0, .bool false, .bool false, .string ⟨#[]⟩] 59)).alloc (.cells #[.string ⟨#[]⟩, .int .i64 0, .int .i64 0, .int .u8 0, .bool false, .int .i64 0, .int .i64 0, .int .i64 0, .bool false, .int .i64 0, .int .i64 0, .string ⟨#[]⟩, .slice none 0 0, .bool false, .bool false, .string ⟨#[]⟩] 59) = W2 at T1 T2 T3 hHeld ⊢
          refine wpAnyH_ready (rs := [10]) (by kernel_rfl) (by simp) ?_
          refine AllReadyH.cons (o := _) rfl (fun K hK => ?_) AllReadyH.nil
          rw [if_pos (by rfl)]
          refine wp_store_mid 59 _ _ rfl (wr.heap.size + 1) 0 ([.string (vf.nm k), .int .i64 0, .int .i64 (vf.cl k), .int .u8 (vf.kd k), .bool false, .int .i64 0, .int .i64 0, .int .i64 0, .bool false, .int .i64 0, .int .i64 0, .string ⟨#[]⟩, .slice x m l, .bool false, .bool false, .string ⟨#[]⟩] : List Value).toArray rfl rfl ?_ (by kernel_rfl) (all_oneCell_toArray (by intro v hv; simp at hv; rcases hv with rfl | rfl | rfl | rfl | rfl | rfl | rfl | rfl | rfl | rfl | rfl | rfl | rfl | rfl | rfl | rfl <;> rfl)) ?_
          · exact T1
          have R1 := World.rangeAt_setCells_same W2.drew (wr.heap.size + 1) 0 [.string (vf.nm k), .int .i64 0, .int .i64 (vf.cl k), .int .u8 (vf.kd k), .bool false, .int .i64 0, .int .i64 0, .int .i64 0, .bool false, .int .i64 0, .int .i64 0, .string ⟨#[]⟩, .slice x m l, .bool false, .bool false, .string ⟨#[]⟩] T1
          have T4 := World.there_setCells T2 (wr.heap.size + 1) 0 [.string (vf.nm k), .int .i64 0, .int .i64 (vf.cl k), .int .u8 (vf.kd k), .bool false, .int .i64 0, .int .i64 0, .int .i64 0, .bool false, .int .i64 0, .int .i64 0, .string ⟨#[]⟩, .slice x m l, .bool false, .bool false, .string ⟨#[]⟩]
          have B4 := bl_set T3.drew (show wr.heap.size ≤ wr.heap.size + 1 by omega) 0 [.string (vf.nm k), .int .i64 0, .int .i64 (vf.cl k), .int .u8 (vf.kd k), .bool false, .int .i64 0, .int .i64 0, .int .i64 0, .bool false, .int .i64 0, .int .i64 0, .string ⟨#[]⟩, .slice x m l, .bool false, .bool false, .string ⟨#[]⟩]
          refine hK.out _ _ B4 (fun hHeld => ?_)
          clear hK K
          change W2.drew.there (wr.heap.size) 0 16 at T2
          replace T4 : (W2.drew.setCells (wr.heap.size + 1) 0 [.string (vf.nm k), .int .i64 0, .int .i64 (vf.cl k), .int .u8 (vf.kd k), .bool false, .int .i64 0, .int .i64 0, .int .i64 0, .bool false, .int .i64 0, .int .i64 0, .string ⟨#[]⟩, .slice x m l, .bool false, .bool false, .string ⟨#[]⟩]).there (wr.heap.size) 0 16 := World.there_setCells T2 (wr.heap.size + 1) 0 [.string (vf.nm k), .int .i64 0, .int .i64 (vf.cl k), .int .u8 (vf.kd k), .bool false, .int .i64 0, .int .i64 0, .int .i64 0, .bool false, .int .i64 0, .int .i64 0, .string ⟨#[]⟩, .slice x m l, .bool false, .bool false, .string ⟨#[]⟩]
          change wpAnyH _ _ _ _ _ _ _ _ (W2.drew.setCells (wr.heap.size + 1) 0 [.string (vf.nm k), .int .i64 0, .int .i64 (vf.cl k), .int .u8 (vf.kd k), .bool false, .int .i64 0, .int .i64 0, .int .i64 0, .bool false, .int .i64 0, .int .i64 0, .string ⟨#[]⟩, .slice x m l, .bool false, .bool false, .string ⟨#[]⟩])
          generalize W2.drew.setCells (wr.heap.size + 1) 0 [.string (vf.nm k), .int .i64 0, .int .i64 (vf.cl k), .int .u8 (vf.kd k), .bool false, .int .i64 0, .int .i64 0, .int .i64 0, .bool false, .int .i64 0, .int .i64 0, .string ⟨#[]⟩, .slice x m l, .bool false, .bool false, .string ⟨#[]⟩] = W3 at R1 T4 B4 hHeld ⊢
          rw [put_none (by rfl)]
          refine wpAnyH_ready (rs := [11]) (by kernel_rfl) (by simp) ?_
          refine AllReadyH.cons (o := _) rfl (fun K hK => ?_) AllReadyH.nil
          rw [if_pos (by rfl)]
          refine wp_store_mid 59 _ _ rfl (wr.heap.size) 0 ([.string (vf'.nm k), .int .i64 0, .int .i64 (vf'.cl k), .int .u8 (vf'.kd k), .bool false, .int .i64 0, .int .i64 0, .int .i64 0, .bool false, .int .i64 0, .int .i64 0, .string ⟨#[]⟩, .slice y m l, .bool false, .bool false, .string ⟨#[]⟩] : List Value).toArray rfl rfl ?_ (by kernel_rfl) (all_oneCell_toArray (by intro v hv; simp at hv; rcases hv with rfl | rfl | rfl | rfl | rfl | rfl | rfl | rfl | rfl | rfl | rfl | rfl | rfl | rfl | rfl | rfl <;> rfl)) ?_
          · exact T4
          have R2 := World.rangeAt_setCells_same W3 (wr.heap.size) 0 [.string (vf'.nm k), .int .i64 0, .int .i64 (vf'.cl k), .int .u8 (vf'.kd k), .bool false, .int .i64 0, .int .i64 0, .int .i64 0, .bool false, .int .i64 0, .int .i64 0, .string ⟨#[]⟩, .slice y m l, .bool false, .bool false, .string ⟨#[]⟩] T4
          have R3 := World.rangeAt_setCells_apart R1 (wr.heap.size) 0 [.string (vf'.nm k), .int .i64 0, .int .i64 (vf'.cl k), .int .u8 (vf'.kd k), .bool false, .int .i64 0, .int .i64 0, .int .i64 0, .bool false, .int .i64 0, .int .i64 0, .string ⟨#[]⟩, .slice y m l, .bool false, .bool false, .string ⟨#[]⟩] (.inl (by omega))
          have B5 := bl_set B4 (show wr.heap.size ≤ wr.heap.size by omega) 0 [.string (vf'.nm k), .int .i64 0, .int .i64 (vf'.cl k), .int .u8 (vf'.kd k), .bool false, .int .i64 0, .int .i64 0, .int .i64 0, .bool false, .int .i64 0, .int .i64 0, .string ⟨#[]⟩, .slice y m l, .bool false, .bool false, .string ⟨#[]⟩]
          refine hK.out _ _ B5 (fun hHeld => ?_)
          clear hK K
          refine wpAnyH_done (by kernel_rfl) ?_ _
          rw [put_none (by rfl)]
          refine Met.intro ?_
          go_step
          go_meet
          case rel =>
            exact ⟨wr.heap.size + 1, wr.heap.size, rfl, rfl, vb_range R3, vb_range R2, by omega, by omega, B5⟩
      case rest =>
        obtain ⟨h, h', rfl, rfl, vb, vb', hh, hh', hbx⟩ := hcut
        obtain ⟨E1, E2, E3⟩ := HE.out k hlt
        rw [E1, E2, E3] at vb'
        clear e0 e1 e2 e3 e4 e5 e6 e7 e8 e9 e10 e11 e12 e13 e14 e15 f0 f1 f2 f3 f4 f5 f6 f7 f8 f9 f10 f11 f12 f13 f14 f15 E1 E2 E3
        have BX : Hid (Below w.heap.size w wc) := HB.out.trans (hbx.mono HB.out.size)
        have zh : h < wc.heap.size := block_lt_of_cell vb.c0
        have zh' : h' < wc.heap.size := block_lt_of_cell vb'.c0
        have VB : Hid (VbAt wc h (vf.nm k) (vf.cl k) (vf.kd k) (.slice x m l)) := vb
        have VB' : Hid (VbAt wc h' (vf.nm k) (vf.cl k) (vf.kd k) (.slice y m l)) := vb'
        have c12 := vb.c12
        have d12 := vb'.c12
        clear vb vb' hbx
        generalize vf.nm k = nmk at *
        generalize vf.cl k = clk at *
        generalize vf.kd k = kdk at *
        have EQ : ∀ W : World, W = wc → Calls Tryd.prog 15 #[.slice x m l, .slice y m l] W fun e w' => e = .returned (.bool true) ∧ Below W.heap.size W w' := by
          rintro W rfl
          rcases I3.out with rfl | ⟨a, b, v, rfl, rfl, v1, v2, hm⟩
          · exact Equal_none _ _ _ _ _
          · exact Equal_rows _ _ _ _ _ v _ (v1.below BX.out) (v2.below BX.out) (by omega)
        have EQH : Hid _ := EQ
        clear EQ
        go_wp2_with (go_at_call 15; refine (EQH.out _ rfl).mono ?_; rintro e w3 ⟨rfl, hb3⟩; have B3 : Hid (Below wc.heap.size wc w3) := hb3; obtain ⟨a0, a1, a2, a3, a4, a5, a6, a7, a8, a9, a10, a11, a12, a13, a14, a15⟩ := vb_below VB.out hb3; obtain ⟨b0, b1, b2, b3, b4, b5, b6, b7, b8, b9, b10, b11, b12, b13, b14, b15⟩ := vb_below VB'.out hb3; clear hb3)
        exact ⟨⟨k + 1, by omega, by go_num, BX.out.trans (B3.out.mono BX.out.size)⟩, by simp [intOf]; omega⟩
    · have ek : k = n := by omega
      clear hb
      go_wp2
      go_ret
      exact ⟨rfl, HB.out⟩
end Go.Proofs.YtjnegbjgogkamaaDoor
