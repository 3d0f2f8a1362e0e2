/- Variables, beginnings and sizes of no block, and of each block on both sides; no statement of the seat is proved here. -/
import Derived.Test.YtjnegbjgogkamaaDoorTlA
import Derived.Test.YtjnegbjgogkamaaDoorRfQ
import Derived.Test.YtjnegbjgogkamaaDoorLvD
namespace Go.Proofs.YtjnegbjgogkamaaDoor
set_option linter.unusedVariables false
open Go.RowKit
theorem fld0 : FldOk ⟨#[]⟩ 0 (fun _ => ⟨#[]⟩) where
  small := by decide
  ascii := fun j b h => by simp at h
  len := by decide
  at_ := fun i hi => absurd hi (Nat.not_lt_zero _)
set_option maxRecDepth 20000 in
set_option maxHeartbeats 2000000 in
theorem Vars_bad (K : Int) (w : World) (h : K ≤ 0 ∨ 11 ≤ K) (ht : Asc w) : Calls Tryd.prog 13 #[.int .i64 K] w fun e w' => e = .returned (.slice none 0 0) ∧ Below w.heap.size w w' := by
  have HT : Hid (Asc w) := ht
  have HK : Hid (K ≤ 0 ∨ 11 ≤ K) := h
  clear ht h
  go_enter Tryd.func13, Tryd.ntmps13
  go_wp2_with (first | (go_at_call 25; refine (numbered_bad' K _ HK.out).mono ?_; rintro e w1 ⟨rfl, hb⟩; have HB1 : Hid (Below w.heap.size w w1) := hb; clear hb) | (refine wpList_store_row rfl 51 _ _ rfl w1.heap.size _ rfl rfl _ _ (heap_alloc_last w1 _) blk_info rfl (by kernel_rfl) ?_; rw [World.setRow_alloc_new]) | (go_at_call 26; refine (Fields_of _ 0 _ _ fld0 ((HT.out.below HB1.out).below ((Below.refl _ _).alloc (Nat.le_refl _) _))).mono ?_; rintro e w2 ⟨rfl, hnm, hb⟩; have HB2 : Hid _ := hb; clear hb hnm))
  have B2 : Hid (Below w.heap.size w w2) := HB1.out.trans ((((Below.refl _ _).alloc (Nat.le_refl _) _).trans (HB2.out.mono (by simp))).mono HB1.out.size)
  go_loopw [4, 14] (fun v i wr => v = .slice none 0 0 ∧ i = .int .i64 0 ∧ wr = w2) (fun _ _ _ => 0)
  case atStart => exact ⟨rfl, rfl, rfl⟩
  case round =>
    obtain ⟨rfl, rfl, rfl⟩ := hrel
    go_wp2
    go_ret
    exact ⟨rfl, B2.out⟩
set_option maxHeartbeats 2000000 in
theorem Start_bad (K : Int) (w : World) (h : K ≤ 0 ∨ 11 ≤ K) (ht : Asc w) : Calls Tryd.prog 16 #[.int .i64 K] w fun e w' => e = .returned (.slice none 0 0) ∧ Below w.heap.size w w' := by
  have HT : Hid (Asc w) := ht
  have HK : Hid (K ≤ 0 ∨ 11 ≤ K) := h
  clear ht h
  go_enter Tryd.func16, Tryd.ntmps16
  go_wp2_with fail
  refine (Vars_bad K _ HK.out HT.out).mono ?_
  rintro e w2 ⟨rfl, hb⟩
  have B2 : Hid (Below w.heap.size w w2) := hb
  clear hb
  go_wp2_with fail
  go_loopw [3, 10] (fun v i wr => v = .slice none 0 0 ∧ i = .int .i64 0 ∧ wr = w2) (fun _ _ _ => 0)
  case atStart => exact ⟨rfl, rfl, rfl⟩
  case round =>
    obtain ⟨rfl, rfl, rfl⟩ := hrel
    go_wp2
    go_ret
    exact ⟨rfl, B2.out⟩
set_option maxHeartbeats 2000000 in
theorem StartR_bad (K : Int) (w : World) (h : K ≤ 0 ∨ 11 ≤ K) : Calls Tryd.prog 17 #[.int .i64 K] w fun e w' => e = .returned (.slice none 0 0) ∧ Below w.heap.size w w' := by
  have HK : Hid (K ≤ 0 ∨ 11 ≤ K) := h
  clear h
  go_enter Tryd.func17, Tryd.ntmps17
  go_wp2_with fail
  refine (VarsR_bad K _ HK.out).mono ?_
  rintro e w2 ⟨rfl, rfl⟩
  go_wp2_with fail
  go_loopw [4, 5] (fun v i wr => v = .slice none 0 0 ∧ i = .int .i64 0 ∧ wr = w2) (fun _ _ _ => 0)
  case atStart => exact ⟨rfl, rfl, rfl⟩
  case round =>
    obtain ⟨rfl, rfl, rfl⟩ := hrel
    go_wp2
    go_ret
    exact ⟨rfl, Below.refl _ _⟩
set_option maxHeartbeats 2000000 in
theorem SameVars_nil (w : World) : Calls Tryd.prog 12 #[.slice none 0 0, .slice none 0 0] w fun e w' => e = .returned (.bool true) ∧ Below w.heap.size w w' := by
  go_enter Tryd.func12, Tryd.ntmps12
  go_wp2_with fail
  go_loopw [15] (fun i wr => i = .int .i64 0 ∧ wr = w) (fun _ _ => 0)
  case atStart => exact ⟨rfl, rfl⟩
  case round =>
    obtain ⟨rfl, rfl⟩ := hrel
    go_wp2
    go_ret
    exact ⟨rfl, Below.refl _ _⟩
set_option maxHeartbeats 1000000 in
theorem SizeR_len (K : Int) (m : Nat) (w : World) (hV : Calls Tryd.prog 14 #[.int .i64 K] w fun e w' => (∃ x c, e = .returned (.slice x m c)) ∧ Below w.heap.size w w') : Calls Tryd.prog 11 #[.int .i64 K] w fun e w' => e = .returned (.int .i64 m) ∧ Below w.heap.size w w' := by
  go_enter Tryd.func11, Tryd.ntmps11
  go_wp2_with fail
  refine hV.mono ?_
  rintro e w1 ⟨⟨x, c, rfl⟩, hb⟩
  have B : Hid (Below w.heap.size w w1) := hb
  clear hb hV
  go_wp2
  go_ret
  exact ⟨rfl, B.out⟩
theorem SizeR_of (K : Int) (w : World) : Calls Tryd.prog 11 #[.int .i64 K] w fun e w' => e = .returned (.int .i64 (szT K)) ∧ Below w.heap.size w w' := by
  rcases Kc K with h | rfl | rfl | rfl | rfl | rfl | rfl | rfl | rfl | rfl | rfl
  · rw [szT_bad h]; exact SizeR_len K 0 w ((VarsR_bad K w h).mono fun e w' ⟨h1, h2⟩ => ⟨⟨_, _, h1⟩, h2 ▸ Below.refl _ _⟩)
  · exact SizeR_len 1 3 w ((VarsR_1 w).mono fun e w' ⟨g, c, h1, _, _, h2⟩ => ⟨⟨_, _, h1⟩, h2⟩)
  · exact SizeR_len 2 3 w ((VarsR_2 w).mono fun e w' ⟨g, c, h1, _, _, h2⟩ => ⟨⟨_, _, h1⟩, h2⟩)
  · exact SizeR_len 3 3 w ((VarsR_3 w).mono fun e w' ⟨g, c, h1, _, _, h2⟩ => ⟨⟨_, _, h1⟩, h2⟩)
  · exact SizeR_len 4 3 w ((VarsR_4 w).mono fun e w' ⟨g, c, h1, _, _, h2⟩ => ⟨⟨_, _, h1⟩, h2⟩)
  · exact SizeR_len 5 6 w ((VarsR_5 w).mono fun e w' ⟨g, c, h1, _, _, h2⟩ => ⟨⟨_, _, h1⟩, h2⟩)
  · exact SizeR_len 6 6 w ((VarsR_6 w).mono fun e w' ⟨g, c, h1, _, _, h2⟩ => ⟨⟨_, _, h1⟩, h2⟩)
  · exact SizeR_len 7 10 w ((VarsR_7 w).mono fun e w' ⟨g, c, h1, _, _, h2⟩ => ⟨⟨_, _, h1⟩, h2⟩)
  · exact SizeR_len 8 6 w ((VarsR_8 w).mono fun e w' ⟨g, c, h1, _, _, h2⟩ => ⟨⟨_, _, h1⟩, h2⟩)
  · exact SizeR_len 9 6 w ((VarsR_9 w).mono fun e w' ⟨g, c, h1, _, _, h2⟩ => ⟨⟨_, _, h1⟩, h2⟩)
  · exact SizeR_len 10 6 w ((VarsR_10 w).mono fun e w' ⟨g, c, h1, _, _, h2⟩ => ⟨⟨_, _, h1⟩, h2⟩)
/-- Variables that begin as zero, or as TRUE. -/
def IniT (w : World) (n : Nat) (Z : Nat → Prop) (vf : VrF) : Prop := ∀ i, i < n → (Z i ∧ vf.ini i = .slice none 0 0) ∨ (¬ Z i ∧ ∃ b, vf.ini i = .slice (some ⟨b, 0, none⟩) 1 1 ∧ VsAt w ⟨b, 0, none⟩ 1 (fun _ => ⟨1, 1, ⟨#[]⟩⟩))
theorem IniT.below {w w' : World} {n : Nat} {Z : Nat → Prop} {vf : VrF} (h : IniT w n Z vf) (hb : Below w.heap.size w w') : IniT w' n Z vf := fun i hi => by
  rcases h i hi with h | ⟨h1, b, h2, h3⟩
  · exact .inl h
  · exact .inr ⟨h1, b, h2, h3.below hb⟩
/-- A block's variables, on both sides. -/
structure Tv (K : Int) (n : Nat) (N : Nat → ByteArray) (C D : Nat → Int) (Z : Nat → Prop) : Prop where
  hn : n ≤ 100
  vp : ∀ w, Asc w → Calls Tryd.prog 13 #[.int .i64 K] w fun e w' => ∃ g c, e = .returned (.slice (some ⟨g, 0, none⟩) n c) ∧ (∃ vf, VrAt w' g n vf ∧ (∀ i, i < n → vf.nm i = N i ∧ vf.cl i = C i ∧ vf.kd i = D i) ∧ IniT w' n Z vf) ∧ Below w.heap.size w w'
  vr : ∀ w, Calls Tryd.prog 14 #[.int .i64 K] w fun e w' => ∃ g c, e = .returned (.slice (some ⟨g, 0, none⟩) n c) ∧ (∃ vf, VrAt w' g n vf ∧ (∀ i, i < n → vf.nm i = N i ∧ vf.cl i = C i ∧ vf.kd i = D i) ∧ IniT w' n Z vf) ∧ Below w.heap.size w w'
theorem one_at {w : World} {b : Nat} (c0 : w.cell? ⟨b, 0, none⟩ = some (.int .u8 1)) (c1 : w.cell? ⟨b, 1, none⟩ = some (.int .u64 1)) (c2 : w.cell? ⟨b, 2, none⟩ = some (.string ⟨#[]⟩)) : VsAt w ⟨b, 0, none⟩ 1 (fun _ => ⟨1, 1, ⟨#[]⟩⟩) := by
  intro i hi
  have e : i = 0 := by omega
  subst e
  exact ⟨c0, c1, c2⟩
theorem tv_1 : Tv 1 3 (fun i => nL1.getD i ⟨#[]⟩) (clsN 2 1) (kAt ks3) (fun _ => True) where
  hn := by decide
  vp := fun w ht => (Vars_plain 1 ⟨#[83, 82]⟩ ⟨#[83, 49, 32, 82, 32, 81, 49]⟩ ks3 2 1 40 3 _ w numbered_1 rfl rfl (by decide) (by decide) fld1 ht (by decide) (by decide)).mono fun e w' ⟨g, c, h1, _, h3, h4⟩ => ⟨g, c, h1, ⟨_, h3, fun i hi => ⟨rfl, rfl, rfl⟩, fun i hi => .inl ⟨trivial, rfl⟩⟩, h4⟩
  vr := fun w => (VarsR_1 w).mono fun e w' ⟨g, c, h1, _, h3, h4⟩ => ⟨g, c, h1, ⟨_, h3, fun i hi => ⟨rfl, rfl, rfl⟩, fun i hi => .inl ⟨trivial, rfl⟩⟩, h4⟩
theorem tv_2 : Tv 2 3 (fun i => nL2.getD i ⟨#[]⟩) (clsN 2 1) (kAt ks3) (fun _ => True) where
  hn := by decide
  vp := fun w ht => (Vars_plain 2 ⟨#[82, 83]⟩ ⟨#[83, 32, 82, 49, 32, 81, 49]⟩ ks3 2 1 41 3 _ w numbered_2 rfl rfl (by decide) (by decide) fld2 ht (by decide) (by decide)).mono fun e w' ⟨g, c, h1, _, h3, h4⟩ => ⟨g, c, h1, ⟨_, h3, fun i hi => ⟨rfl, rfl, rfl⟩, fun i hi => .inl ⟨trivial, rfl⟩⟩, h4⟩
  vr := fun w => (VarsR_2 w).mono fun e w' ⟨g, c, h1, _, h3, h4⟩ => ⟨g, c, h1, ⟨_, h3, fun i hi => ⟨rfl, rfl, rfl⟩, fun i hi => .inl ⟨trivial, rfl⟩⟩, h4⟩
theorem tv_3 : Tv 3 3 (fun i => nLE.getD i ⟨#[]⟩) (clsN 1 1) (kAt ks3) (fun _ => True) where
  hn := by decide
  vp := fun w ht => (Vars_plain 3 ⟨#[82, 95, 84, 82, 73, 71]⟩ ⟨#[67, 76, 75, 32, 81, 32, 77]⟩ ks3 1 1 42 3 _ w numbered_3 rfl rfl (by decide) (by decide) fld3 ht (by decide) (by decide)).mono fun e w' ⟨g, c, h1, _, h3, h4⟩ => ⟨g, c, h1, ⟨_, h3, fun i hi => ⟨rfl, rfl, rfl⟩, fun i hi => .inl ⟨trivial, rfl⟩⟩, h4⟩
  vr := fun w => (VarsR_3 w).mono fun e w' ⟨g, c, h1, _, h3, h4⟩ => ⟨g, c, h1, ⟨_, h3, fun i hi => ⟨rfl, rfl, rfl⟩, fun i hi => .inl ⟨trivial, rfl⟩⟩, h4⟩
theorem tv_4 : Tv 4 3 (fun i => nLE.getD i ⟨#[]⟩) (clsN 1 1) (kAt ks3) (fun i => ¬ i = 2) where
  hn := by decide
  vp := fun w ht => (Vars_fall ⟨#[70, 95, 84, 82, 73, 71]⟩ ⟨#[67, 76, 75, 32, 81, 32, 77]⟩ ks3 1 1 43 w numbered_4 rfl fldF' ht (by decide) (by decide)).mono fun e w' ⟨g, c, b, h1, _, h3, h5, h4⟩ => ⟨g, c, h1, ⟨_, h3, fun i hi => ⟨by
    match i, hi with
    | 0, _ => rfl
    | 1, _ => rfl
    | 2, _ => rfl, rfl, rfl⟩, fun i hi => by
    by_cases e : i = 2
    · exact .inr ⟨fun h => h e, b, by show iniF b i = _; unfold iniF; rw [if_pos e], one_at h5.c0 h5.c1 h5.c2⟩
    · exact .inl ⟨e, by show iniF b i = _; unfold iniF; rw [if_neg e]⟩⟩, h4⟩
  vr := fun w => (VarsR_4 w).mono fun e w' ⟨g, c, h1, _, ⟨b, h3, h5⟩, h4⟩ => ⟨g, c, h1, ⟨_, h3, fun i hi => ⟨rfl, rfl, rfl⟩, fun i hi => by
    by_cases e : i = 2
    · exact .inr ⟨fun h => h e, b, by show iniR b i = _; unfold iniR; rw [if_pos e], one_at h5.c0 h5.c1 h5.c2⟩
    · exact .inl ⟨e, by show iniR b i = _; unfold iniR; rw [if_neg e]⟩⟩, h4⟩
theorem tv_5 : Tv 5 6 (fun i => nLU.getD i ⟨#[]⟩) (clsN 3 2) (kAt ksC) (fun _ => True) where
  hn := by decide
  vp := fun w ht => (Vars_plain 5 ⟨#[67, 84, 85]⟩ ⟨#[67, 85, 32, 82, 32, 80, 86, 32, 81, 32, 67, 86, 32, 77]⟩ ksC 3 2 44 6 _ w numbered_5 rfl rfl (by decide) (by decide) fld5 ht (by decide) (by decide)).mono fun e w' ⟨g, c, h1, _, h3, h4⟩ => ⟨g, c, h1, ⟨_, h3, fun i hi => ⟨rfl, rfl, rfl⟩, fun i hi => .inl ⟨trivial, rfl⟩⟩, h4⟩
  vr := fun w => (VarsR_5 w).mono fun e w' ⟨g, c, h1, _, h3, h4⟩ => ⟨g, c, h1, ⟨_, h3, fun i hi => ⟨rfl, rfl, rfl⟩, fun i hi => .inl ⟨trivial, rfl⟩⟩, h4⟩
theorem tv_6 : Tv 6 6 (fun i => nLD.getD i ⟨#[]⟩) (clsN 3 2) (kAt ksC) (fun _ => True) where
  hn := by decide
  vp := fun w ht => (Vars_plain 6 ⟨#[67, 84, 68]⟩ ⟨#[67, 68, 32, 76, 68, 32, 80, 86, 32, 81, 32, 67, 86, 32, 77]⟩ ksC 3 2 45 6 _ w numbered_6 rfl rfl (by decide) (by decide) fld6 ht (by decide) (by decide)).mono fun e w' ⟨g, c, h1, _, h3, h4⟩ => ⟨g, c, h1, ⟨_, h3, fun i hi => ⟨rfl, rfl, rfl⟩, fun i hi => .inl ⟨trivial, rfl⟩⟩, h4⟩
  vr := fun w => (VarsR_6 w).mono fun e w' ⟨g, c, h1, _, h3, h4⟩ => ⟨g, c, h1, ⟨_, h3, fun i hi => ⟨rfl, rfl, rfl⟩, fun i hi => .inl ⟨trivial, rfl⟩⟩, h4⟩
theorem tv_7 : Tv 7 10 (fun i => nLB.getD i ⟨#[]⟩) (clsN 5 3) (kAt ksB) (fun _ => True) where
  hn := by decide
  vp := fun w ht => (Vars_plain 7 ⟨#[67, 84, 85, 68]⟩ ⟨#[67, 85, 32, 67, 68, 32, 82, 32, 76, 68, 32, 80, 86, 32, 81, 85, 32, 81, 68, 32, 67, 86, 32, 77, 32, 78]⟩ ksB 5 3 46 10 _ w numbered_7 rfl rfl (by decide) (by decide) fld7 ht (by decide) (by decide)).mono fun e w' ⟨g, c, h1, _, h3, h4⟩ => ⟨g, c, h1, ⟨_, h3, fun i hi => ⟨rfl, rfl, rfl⟩, fun i hi => .inl ⟨trivial, rfl⟩⟩, h4⟩
  vr := fun w => (VarsR_7 w).mono fun e w' ⟨g, c, h1, _, h3, h4⟩ => ⟨g, c, h1, ⟨_, h3, fun i hi => ⟨rfl, rfl, rfl⟩, fun i hi => .inl ⟨trivial, rfl⟩⟩, h4⟩
theorem tv_8 : Tv 8 6 (fun i => nLT.getD i ⟨#[]⟩) (clsN 2 2) (kAt ksT) (fun _ => True) where
  hn := by decide
  vp := fun w ht => (Vars_plain 8 ⟨#[84, 80]⟩ ⟨#[73, 78, 32, 80, 84, 32, 81, 32, 69, 84, 32, 77, 32, 83]⟩ ksT 2 2 47 6 _ w numbered_8 rfl rfl (by decide) (by decide) fld8 ht (by decide) (by decide)).mono fun e w' ⟨g, c, h1, _, h3, h4⟩ => ⟨g, c, h1, ⟨_, h3, fun i hi => ⟨rfl, rfl, rfl⟩, fun i hi => .inl ⟨trivial, rfl⟩⟩, h4⟩
  vr := fun w => (VarsR_8 w).mono fun e w' ⟨g, c, h1, _, h3, h4⟩ => ⟨g, c, h1, ⟨_, h3, fun i hi => ⟨rfl, rfl, rfl⟩, fun i hi => .inl ⟨trivial, rfl⟩⟩, h4⟩
theorem tv_9 : Tv 9 6 (fun i => nLT.getD i ⟨#[]⟩) (clsN 2 2) (kAt ksT) (fun _ => True) where
  hn := by decide
  vp := fun w ht => (Vars_plain 9 ⟨#[84, 79, 78]⟩ ⟨#[73, 78, 32, 80, 84, 32, 81, 32, 69, 84, 32, 77, 32, 83]⟩ ksT 2 2 48 6 _ w numbered_9 rfl rfl (by decide) (by decide) fld9 ht (by decide) (by decide)).mono fun e w' ⟨g, c, h1, _, h3, h4⟩ => ⟨g, c, h1, ⟨_, h3, fun i hi => ⟨rfl, rfl, rfl⟩, fun i hi => .inl ⟨trivial, rfl⟩⟩, h4⟩
  vr := fun w => (VarsR_9 w).mono fun e w' ⟨g, c, h1, _, h3, h4⟩ => ⟨g, c, h1, ⟨_, h3, fun i hi => ⟨rfl, rfl, rfl⟩, fun i hi => .inl ⟨trivial, rfl⟩⟩, h4⟩
theorem tv_10 : Tv 10 6 (fun i => nLT.getD i ⟨#[]⟩) (clsN 2 2) (kAt ksT) (fun _ => True) where
  hn := by decide
  vp := fun w ht => (Vars_plain 10 ⟨#[84, 79, 70]⟩ ⟨#[73, 78, 32, 80, 84, 32, 81, 32, 69, 84, 32, 77, 32, 83]⟩ ksT 2 2 49 6 _ w numbered_10 rfl rfl (by decide) (by decide) fld10 ht (by decide) (by decide)).mono fun e w' ⟨g, c, h1, _, h3, h4⟩ => ⟨g, c, h1, ⟨_, h3, fun i hi => ⟨rfl, rfl, rfl⟩, fun i hi => .inl ⟨trivial, rfl⟩⟩, h4⟩
  vr := fun w => (VarsR_10 w).mono fun e w' ⟨g, c, h1, _, h3, h4⟩ => ⟨g, c, h1, ⟨_, h3, fun i hi => ⟨rfl, rfl, rfl⟩, fun i hi => .inl ⟨trivial, rfl⟩⟩, h4⟩
theorem tv_any (K : Int) (h : 1 ≤ K ∧ K ≤ 10) : ∃ n N C D Z, Tv K n N C D Z := by
  rcases (show K = 1 ∨ K = 2 ∨ K = 3 ∨ K = 4 ∨ K = 5 ∨ K = 6 ∨ K = 7 ∨ K = 8 ∨ K = 9 ∨ K = 10 by omega) with rfl | rfl | rfl | rfl | rfl | rfl | rfl | rfl | rfl | rfl
  · exact ⟨_, _, _, _, _, tv_1⟩
  · exact ⟨_, _, _, _, _, tv_2⟩
  · exact ⟨_, _, _, _, _, tv_3⟩
  · exact ⟨_, _, _, _, _, tv_4⟩
  · exact ⟨_, _, _, _, _, tv_5⟩
  · exact ⟨_, _, _, _, _, tv_6⟩
  · exact ⟨_, _, _, _, _, tv_7⟩
  · exact ⟨_, _, _, _, _, tv_8⟩
  · exact ⟨_, _, _, _, _, tv_9⟩
  · exact ⟨_, _, _, _, _, tv_10⟩
end Go.Proofs.YtjnegbjgogkamaaDoor
