/- What Start answers for F_TRIG; no statement of the seat is proved here. -/
import Derived.Test.YtjnegbjgogkamaaDoorBlkJF
import Derived.Test.YtjnegbjgogkamaaDoorBlkK
namespace Go.Proofs.YtjnegbjgogkamaaDoor
set_option linter.unusedVariables false
open Go.RowKit
/-- The values with which the cells of F_TRIG begin. -/
def stF (ks : ByteArray) (i : Nat) : Vl := if i = 2 then ⟨1, 1, ⟨#[]⟩⟩ else ⟨kAt ks i, 0, ⟨#[]⟩⟩
section
variable (ks : ByteArray) (ins outs : Int) (w : World)
set_option maxRecDepth 20000 in
set_option maxHeartbeats 4000000 in
theorem Start_fall (hV : Calls Tryd.prog 13 #[.int .i64 4] w fun e w' => ∃ g c b, e = .returned (.slice (some ⟨g, 0, none⟩) 3 c) ∧ w.heap.size ≤ g ∧ VrAt w' g 3 (vfF ks ins outs b) ∧ IbAt w' b ∧ Below w.heap.size w w') (hk2 : kAt ks 2 = 1) :
    Calls Tryd.prog 16 #[.int .i64 4] w fun e w' => ∃ g c, e = .returned (.slice (some ⟨g, 0, none⟩) 3 c) ∧ w.heap.size ≤ g ∧ Row3 w' g 3 (stF ks) ∧ Below w.heap.size w w' := by
  have I : Hid (∃ i, Tryd.prog.info? 34 = some i ∧ i.zero = some (.agg #[.int .u8 0, .int .u64 0, .string ⟨#[]⟩]) ∧ i.size = 3 ∧ i.bytes = 32) := by
    obtain ⟨i, hi, hz⟩ := Option.map_eq_some_iff.1 (show (Tryd.prog.info? 34).map (fun i => (i.zero, i.size, i.bytes)) = some (some (.agg #[.int .u8 0, .int .u64 0, .string ⟨#[]⟩]), 3, 32) by kernel_rfl)
    simp only [Prod.mk.injEq] at hz
    exact ⟨i, hi, hz.1, hz.2.1, hz.2.2⟩
  go_enter Tryd.func16, Tryd.ntmps16
  go_wp2_with fail
  refine hV.mono ?_
  rintro e w2 ⟨g, c, b, rfl, hg, hr, hib, hb⟩
  have h0 : 0 < 3 := by omega
  have HIB : Hid (IbAt w2 b) := hib
  have HK2 : Hid (kAt ks 2 = 1) := hk2
  clear hib hk2
  have HB2 : Hid (Below w.heap.size w w2) := hb
  have HR : Hid (VrAt w2 g 3 (vfF ks ins outs b)) := hr
  have zg : g < w2.heap.size := block_lt_of_cell (hr.cells 0 h0).1
  clear hb hr hV
  go_wp2
  go_loopw [3, 10] (fun v i wr => ∃ k : Nat, k ≤ 3 ∧ i = .int .i64 k ∧ wr.ownsRow w2.heap.size 34 3 v k (flV k (stF ks)) ∧ Below w2.heap.size w2 wr) (fun _ i _ => 3 - (intOf i).toNat)
  case atStart => exact ⟨0, Nat.zero_le _, rfl, ⟨rfl, .inl ⟨rfl, rfl⟩⟩, Below.refl _ _⟩
  case round =>
    obtain ⟨k, hk, rfl, hown, hb⟩ := hrel
    have HB : Hid (Below w2.heap.size w2 wr) := hb
    have HO : Hid (wr.ownsRow w2.heap.size 34 3 _ k (flV k (stF ks))) := hown
    by_cases hlt : k < 3
    · obtain ⟨e0, e1, e2, e3, e4, e5, e6, e7, e8, e9, e10, e11, e12, e13, e14, e15⟩ := (HR.out.below hb).cells k hlt
      have KC : Hid (kAt ks k = 1 ∨ kAt ks k = 3 ∨ kAt ks k = 14) := kAt_cases ks k
      have zr := hb.size
      clear hown hb
      by_cases h2 : k < 2
      · have SF : Hid (stF ks k = ⟨kAt ks k, 0, ⟨#[]⟩⟩) := by show stF ks k = _; unfold stF; rw [if_neg (by omega)]
        rw [show (vfF ks ins outs b).ini k = .slice none 0 0 from by show iniF b k = _; unfold iniF; rw [if_neg (by omega)]] at e12
        go_wp2_with (first | (go_at_call 31; refine (Zero3 _ _ KC.out).mono ?_; rintro e w5 ⟨rfl, hb5⟩; obtain ⟨q5, f5⟩ := bcell hb5; have s5 := hb5.size; (try simp at s5); have l5 : wr.heap.size < w5.heap.size := (by omega); have HB5 : Hid (Below wr.heap.size wr w5) := ((Below.refl _ _).alloc (Nat.le_refl _) _).trans (hb5.mono (by simp)); have HO5 : Hid (w5.ownsRow w2.heap.size 34 3 _ k (flV k (stF ks))) := ownsRow_below HO.out HB5.out; clear hb5) | (at_builtin; obtain ⟨i, hi, hz, hs, hy⟩ := I.out; refine wpList_append_own _ rfl _ _ 30 rfl w2.heap.size 34 i _ 3 32 Tryd.underlying30 hi hz hs hy rfl (by decide) _ k _ rfl (ownsRow_below (ownsRow_below HO5.out ((Below.refl _ _).alloc (Nat.le_refl _) _)) ((Below.refl _ _).alloc (Nat.le_refl _) _)) ⟨w5.heap.size + 1, 0, none⟩ 1 1 [.int .u8 (kAt ks k), .int .u64 0, .string ⟨#[]⟩] rfl rfl (last_src2 w5 _ _ _) (by intro u hu; simp at hu; rcases hu with rfl | rfl | rfl <;> rfl) (by simp [maxLen]; omega) (by omega) (by simp; omega) ?_; intro v' w' k1 k2 k3; have H1 : Hid (w'.ownsRow w2.heap.size 34 3 v' (k + 1) (flV (k + 1) (stF ks))) := (by rw [flV_succ, SF.out]; exact k1); have H2 : Hid _ := k2; clear k1 k2 k3 hi hz hs hy))
        have SZ : Hid (w2.heap.size ≤ w5.heap.size) := Nat.le_trans HB.out.size HB5.out.size
        exact ⟨⟨k + 1, by omega, by go_num, H1.out, (((HB.out.trans (HB5.out.mono HB.out.size)).alloc SZ.out _).alloc (by have := SZ.out; simp; omega) _).grown H2.out (by have := SZ.out; simp; omega) (fun g e => own_block HO5.out e)⟩, by simp [intOf]; omega⟩
      · have ek2 : k = 2 := by omega
        have SF : Hid (stF ks k = ⟨1, 1, ⟨#[]⟩⟩) := by show stF ks k = _; unfold stF; rw [if_pos ek2]
        rw [show (vfF ks ins outs b).ini k = .slice (some ⟨b, 0, none⟩) 1 1 from by show iniF b k = _; unfold iniF; rw [if_pos ek2]] at e12
        obtain ⟨i0, i1, i2⟩ := HIB.out.below HB.out
        have zb : b < wr.heap.size := block_lt_of_cell i0
        have HIW : Hid (IbAt wr b) := HIB.out.below HB.out
        clear ek2 h2
        have zb1 : b < wr.heap.size + 1 := by omega
        have nb1 : ¬ b = wr.heap.size := by omega
        have nb2 : ¬ wr.heap.size = b := by omega
        have e4 := World.new_ne wr ⟨b, 0, none⟩ i0
        go_wp2_with (first | (go_at_call 31; refine (Zero3 _ _ KC.out).mono ?_; rintro e w5 ⟨rfl, hb5⟩; obtain ⟨q5, f5⟩ := bcell hb5; have s5 := hb5.size; (try simp at s5); have l5 : wr.heap.size < w5.heap.size := (by omega); have HB5 : Hid (Below wr.heap.size wr w5) := ((Below.refl _ _).alloc (Nat.le_refl _) _).trans (hb5.mono (by simp)); have HO5 : Hid (w5.ownsRow w2.heap.size 34 3 _ k (flV k (stF ks))) := ownsRow_below HO.out HB5.out; clear hb5; obtain ⟨j0, j1, j2⟩ := HIW.out.below HB5.out; have zb5 : b < w5.heap.size := (by omega); have nb5 : ¬ b = w5.heap.size := (by omega); have nb6 : ¬ w5.heap.size = b := (by omega); have e5 := World.new_ne w5 ⟨b, 0, none⟩ j0) | (at_builtin; obtain ⟨i, hi, hz, hs, hy⟩ := I.out; refine wpList_append_own _ rfl _ _ 30 rfl w2.heap.size 34 i _ 3 32 Tryd.underlying30 hi hz hs hy rfl (by decide) _ k _ rfl (ownsRow_below (ownsRow_below HO5.out ((Below.refl _ _).alloc (Nat.le_refl _) _)) ((Below.refl _ _).alloc (Nat.le_refl _) _)) ⟨w5.heap.size + 1, 0, none⟩ 1 1 [.int .u8 1, .int .u64 1, .string ⟨#[]⟩] rfl rfl (last_src2 w5 _ _ _) (by intro u hu; simp at hu; rcases hu with rfl | rfl | rfl <;> rfl) (by simp [maxLen]; omega) (by omega) (by simp; omega) ?_; intro v' w' k1 k2 k3; have H1 : Hid (w'.ownsRow w2.heap.size 34 3 v' (k + 1) (flV (k + 1) (stF ks))) := (by rw [flV_succ, SF.out]; exact k1); have H2 : Hid _ := k2; clear k1 k2 k3 hi hz hs hy))
        have SZ : Hid (w2.heap.size ≤ w5.heap.size) := Nat.le_trans HB.out.size HB5.out.size
        exact ⟨⟨k + 1, by omega, by go_num, H1.out, (((HB.out.trans (HB5.out.mono HB.out.size)).alloc SZ.out _).alloc (by have := SZ.out; simp; omega) _).grown H2.out (by have := SZ.out; simp; omega) (fun g e => own_block HO5.out e)⟩, by simp [intOf]; omega⟩
    · have ek : k = 3 := by omega
      subst ek
      clear hown hb
      go_wp2
      obtain ⟨g', c', rfl, hg', hr'⟩ := own_row HO.out h0
      go_ret
      exact ⟨g', c', rfl, Nat.le_trans HB2.out.size hg', hr', HB2.out.trans (HB.out.mono HB2.out.size)⟩
end
end Go.Proofs.YtjnegbjgogkamaaDoor
