/- What Start answers, for whatever block but F_TRIG; no statement of the seat is proved here. -/
import Derived.Test.YtjnegbjgogkamaaDoorBlkJ
import Derived.Test.YtjnegbjgogkamaaDoorBlkY
namespace Go.Proofs.YtjnegbjgogkamaaDoor
set_option linter.unusedVariables false
open Go.RowKit
/-- What one variable of a row holds, cell by cell. -/
theorem VrAt.cells {w : World} {g n : Nat} {v : VrF} (h : VrAt w g n v) (i : Nat) (hi : i < n) :
    w.cell? ⟨g, i * 16, none⟩ = some (.string (v.nm i)) ∧ w.cell? ⟨g, i * 16 + 1, none⟩ = some (.int .i64 0) ∧ w.cell? ⟨g, i * 16 + 2, none⟩ = some (.int .i64 (v.cl i)) ∧ w.cell? ⟨g, i * 16 + 3, none⟩ = some (.int .u8 (v.kd i)) ∧ w.cell? ⟨g, i * 16 + 4, none⟩ = some (.bool false) ∧ w.cell? ⟨g, i * 16 + 5, none⟩ = some (.int .i64 0) ∧ w.cell? ⟨g, i * 16 + 6, none⟩ = some (.int .i64 0) ∧ w.cell? ⟨g, i * 16 + 7, none⟩ = some (.int .i64 0) ∧ w.cell? ⟨g, i * 16 + 8, none⟩ = some (.bool false) ∧ w.cell? ⟨g, i * 16 + 9, none⟩ = some (.int .i64 0) ∧ w.cell? ⟨g, i * 16 + 10, none⟩ = some (.int .i64 0) ∧ w.cell? ⟨g, i * 16 + 11, none⟩ = some (.string ⟨#[]⟩) ∧ w.cell? ⟨g, i * 16 + 12, none⟩ = some (v.ini i) ∧ w.cell? ⟨g, i * 16 + 13, none⟩ = some (.bool false) ∧ w.cell? ⟨g, i * 16 + 14, none⟩ = some (.bool false) ∧ w.cell? ⟨g, i * 16 + 15, none⟩ = some (.string ⟨#[]⟩) :=
  ⟨h i hi 0 (by omega), h i hi 1 (by omega), h i hi 2 (by omega), h i hi 3 (by omega), h i hi 4 (by omega), h i hi 5 (by omega), h i hi 6 (by omega), h i hi 7 (by omega), h i hi 8 (by omega), h i hi 9 (by omega), h i hi 10 (by omega), h i hi 11 (by omega), h i hi 12 (by omega), h i hi 13 (by omega), h i hi 14 (by omega), h i hi 15 (by omega)⟩
theorem last_src2 (w : World) (X : Obj) (l : List Value) (t : TypeId) : ∀ j u, l[j]? = some u → ((w.alloc X).alloc (.cells l.toArray t)).cell? ((⟨w.heap.size + 1, 0, none⟩ : Addr).add j) = some u := by
  have := last_src (w.alloc X) l t
  rwa [World.size_alloc] at this
/-- The values with which cells begin. -/
def strV (ks : ByteArray) (i : Nat) : Vl := ⟨kAt ks i, 0, ⟨#[]⟩⟩
section
variable (K : Int) (ks : ByteArray) (ins outs : Int) (n : Nat) (nms : Nat → ByteArray) (w : World)
set_option maxHeartbeats 4000000 in
theorem Start_plain (hV : Calls Tryd.prog 13 #[.int .i64 K] w fun e w' => ∃ g c, e = .returned (.slice (some ⟨g, 0, none⟩) n c) ∧ w.heap.size ≤ g ∧ VrAt w' g n ⟨nms, clsN ins outs, kAt ks, fun _ => .slice none 0 0⟩ ∧ Below w.heap.size w w')
    (hm : n ≤ 100) (h0 : 0 < n) :
    Calls Tryd.prog 16 #[.int .i64 K] w fun e w' => ∃ g c, e = .returned (.slice (some ⟨g, 0, none⟩) n c) ∧ w.heap.size ≤ g ∧ Row3 w' g n (strV ks) ∧ Below w.heap.size w w' := by
  have I : Hid (∃ i, Tryd.prog.info? 34 = some i ∧ i.zero = some (.agg #[.int .u8 0, .int .u64 0, .string ⟨#[]⟩]) ∧ i.size = 3 ∧ i.bytes = 32) := by
    obtain ⟨i, hi, hz⟩ := Option.map_eq_some_iff.1 (show (Tryd.prog.info? 34).map (fun i => (i.zero, i.size, i.bytes)) = some (some (.agg #[.int .u8 0, .int .u64 0, .string ⟨#[]⟩]), 3, 32) by kernel_rfl)
    simp only [Prod.mk.injEq] at hz
    exact ⟨i, hi, hz.1, hz.2.1, hz.2.2⟩
  go_enter Tryd.func16, Tryd.ntmps16
  go_wp2_with fail
  refine hV.mono ?_
  rintro e w2 ⟨g, c, rfl, hg, hr, hb⟩
  have HB2 : Hid (Below w.heap.size w w2) := hb
  have HR : Hid (VrAt w2 g n ⟨nms, clsN ins outs, kAt ks, fun _ => .slice none 0 0⟩) := hr
  have zg : g < w2.heap.size := block_lt_of_cell (hr.cells 0 h0).1
  clear hb hr hV
  go_wp2
  go_loopw [3, 10] (fun v i wr => ∃ k : Nat, k ≤ n ∧ i = .int .i64 k ∧ wr.ownsRow w2.heap.size 34 3 v k (flV k (strV ks)) ∧ Below w2.heap.size w2 wr) (fun _ i _ => n - (intOf i).toNat)
  case atStart => exact ⟨0, Nat.zero_le _, rfl, ⟨rfl, .inl ⟨rfl, rfl⟩⟩, Below.refl _ _⟩
  case round =>
    obtain ⟨k, hk, rfl, hown, hb⟩ := hrel
    have HB : Hid (Below w2.heap.size w2 wr) := hb
    have HO : Hid (wr.ownsRow w2.heap.size 34 3 _ k (flV k (strV ks))) := hown
    by_cases hlt : k < n
    · obtain ⟨e0, e1, e2, e3, e4, e5, e6, e7, e8, e9, e10, e11, e12, e13, e14, e15⟩ := (HR.out.below hb).cells k hlt
      have KC : Hid (kAt ks k = 1 ∨ kAt ks k = 3 ∨ kAt ks k = 14) := kAt_cases ks k
      have zr := hb.size
      clear hown hb
      go_wp2_with (first | (go_at_call 31; refine (Zero3 _ _ KC.out).mono ?_; rintro e w5 ⟨rfl, hb5⟩; obtain ⟨q5, f5⟩ := bcell hb5; have s5 := hb5.size; (try simp at s5); have l5 : wr.heap.size < w5.heap.size := (by omega); have HB5 : Hid (Below wr.heap.size wr w5) := ((Below.refl _ _).alloc (Nat.le_refl _) _).trans (hb5.mono (by simp)); have HO5 : Hid (w5.ownsRow w2.heap.size 34 3 _ k (flV k (strV ks))) := ownsRow_below HO.out HB5.out; clear hb5) | (at_builtin; obtain ⟨i, hi, hz, hs, hy⟩ := I.out; refine wpList_append_own _ rfl _ _ 30 rfl w2.heap.size 34 i _ 3 32 Tryd.underlying30 hi hz hs hy rfl (by decide) _ k _ rfl (ownsRow_below (ownsRow_below HO5.out ((Below.refl _ _).alloc (Nat.le_refl _) _)) ((Below.refl _ _).alloc (Nat.le_refl _) _)) ⟨w5.heap.size + 1, 0, none⟩ 1 1 [.int .u8 (kAt ks k), .int .u64 0, .string ⟨#[]⟩] rfl rfl (last_src2 w5 _ _ _) (by intro u hu; simp at hu; rcases hu with rfl | rfl | rfl <;> rfl) (by simp [maxLen]; omega) (by omega) (by simp; omega) ?_; intro v' w' k1 k2 k3; have H1 : Hid (w'.ownsRow w2.heap.size 34 3 v' (k + 1) (flV (k + 1) (strV ks))) := (by rw [flV_succ]; exact k1); have H2 : Hid _ := k2; clear k1 k2 k3 hi hz hs hy))
      have SZ : Hid (w2.heap.size ≤ w5.heap.size) := Nat.le_trans HB.out.size HB5.out.size
      exact ⟨⟨k + 1, by omega, by go_num, H1.out, (((HB.out.trans (HB5.out.mono HB.out.size)).alloc SZ.out _).alloc (by have := SZ.out; simp; omega) _).grown H2.out (by have := SZ.out; simp; omega) (fun g e => own_block HO5.out e)⟩, by simp [intOf]; omega⟩
    · have ek : k = n := by omega
      subst ek
      clear hown hb
      go_wp2
      obtain ⟨g', c', rfl, hg', hr'⟩ := own_row HO.out h0
      go_ret
      exact ⟨g', c', rfl, Nat.le_trans HB2.out.size hg', hr', HB2.out.trans (HB.out.mono HB2.out.size)⟩
end
end Go.Proofs.YtjnegbjgogkamaaDoor
