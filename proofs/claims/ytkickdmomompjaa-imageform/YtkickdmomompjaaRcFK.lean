/- The walk of ImageForm; no statement of the seat is proved here. -/
import Derived.Test.YtkickdmomompjaaRcEK
namespace Go.Proofs.Ytkickdmomompjaa
set_option linter.unusedVariables false
set_option linter.unusedSimpArgs false
open Go.RowKit
set_option maxRecDepth 20000 in
set_option maxHeartbeats 8000000 in
theorem imform_walk (x : Option Addr) (c : Nat) (l : List Nat) (w : World) (h8 : ∀ b ∈ l, b < 256) (hx : BySl x l w) (hc : l.length ≤ c) :
    Calls Try.prog 3 #[.slice x l.length c] w fun e w' => e = .returned (.bool true) ∧ Below w.heap.size w w' := by
  have HX : Hid (BySl x l w) := hx
  have P1 : Hid (Calls Try.prog 6 #[.slice x l.length c] w fun e w' => (∃ z, e = .returned (.tuple #[z, .int .i64 (decE l).1, .int .i64 (decE l).2]) ∧ DecZ (decM l) (decE l).2 w.heap.size w' z) ∧ Below w.heap.size w w') := DecodeX x c l w h8 hx hc
  have FM : Hid ((decE l).2 = 0 → l = fileN (decM l) ∧ (chk (decM l)).2.2 = 0 ∧ ImOk (decM l) ∧ (imbN (decM l)).length + 4 ≤ 4194304) := fun h => by
    obtain ⟨e, c0, g, _, hz⟩ := dec_form h8 h
    have ok : ImOk (decM l) := by
      have q : (frO l).2 = 0 := Decidable.byContradiction fun q => by unfold decE at h; rw [if_pos q] at h; exact q h
      have y : (decT l).y = 0 := Decidable.byContradiction fun y => by unfold decE at h; rw [if_neg (fun z => z q), if_pos y] at h; exact y h
      exact dec_ok h8 q y
    exact ⟨e, c0, ok, by have := congrArg List.length e; rw [fileN_len] at this; omega⟩
  clear hx h8 hc
  generalize (decE l).1 = a at *
  generalize (decE l).2 = b at *
  generalize (decM l) = m at *
  go_enter Try.func3, Try.ntmps3
  go_wp2_with fail
  refine (P1.out).mono ?_
  rintro e w2 ⟨⟨z, rfl, hz⟩, hb2⟩
  obtain ⟨m1, x1, c1, x2, c2, x3, c3, e1, rfl, hq⟩ := hz.im
  have B2 : Hid (Below w.heap.size w w2) := hb2
  have Q2 : Hid (ImQ (fun b => b < w2.heap.size) w2 m1 x1 x2 x3) := hq
  have E1 : Hid (m1 = if b = 0 then m else im0) := e1
  clear hb2 hq hz e1 P1
  go_upto_region 2 with fail
  obtain ⟨V2, eV⟩ : ∃ V, V = w2.alloc (.cells #[.string m1.nm, .slice x1 m1.cs.length c1, .slice x2 m1.fs.length c2, .slice x3 m1.js.length c3] 27 (0, 0)) := ⟨_, rfl⟩
  obtain ⟨g1, eg⟩ : ∃ g, g = w2.heap.size := ⟨_, rfl⟩
  rw [← eV]
  try rw [← eg]
  have A2 : Below w2.heap.size w2 V2 := by rw [eV]; exact alB _ _
  have B3 : Hid (Below w.heap.size w V2) := B2.out.trans (A2.mono B2.out.size)
  have Q3 : Hid (ImQ (fun b => b < V2.heap.size) V2 m1 x1 x2 x3) := Q2.out.old A2
  have X3 : Hid (V2.heap[g1]? = some (.cells #[.string m1.nm, .slice x1 m1.cs.length c1, .slice x2 m1.fs.length c2, .slice x3 m1.js.length c3] 27 (0, 0))) := by rw [eV, eg]; exact heap_alloc_last _ _
  clear A2 eV eg Q2 B2
  by_cases hb : b = 0
  case neg =>
    go_wp2_with fail
    refine (awake_of _).mono ?_
    rintro e w8 ⟨rfl, hb8⟩
    have B8 : Hid (Below w.heap.size w w8) := B3.out.trans (hb8.mono B3.out.size)
    clear hb8
    go_wp2
    go_ret
    exact ⟨by first | rfl | simp, B8.out⟩
  case pos =>
    subst hb
    obtain ⟨fl, fc, fo, fz⟩ := FM.out rfl
    have em : m1 = m := by rw [E1.out, if_pos rfl]
    subst em
    have EN : Hid (Calls Try.prog 8 #[.agg #[.string m1.nm, .slice x1 m1.cs.length c1, .slice x2 m1.fs.length c2, .slice x3 m1.js.length c3]] V2 fun e w' => (∃ y d, e = .returned (.tuple #[.slice y l.length d, .int .i64 0]) ∧ Sb V2.heap.size l (.slice y l.length d) w') ∧ Below V2.heap.size V2 w') := by
      have q := EncodeY m1 x1 x2 x3 c1 c2 c3 V2 (fun b q => q) Q3.out fo fc fz
      rw [← fl] at q
      exact q
    have LZ : Hid (l.length ≤ 4194304) := by show _ ≤ _; have := congrArg List.length fl; rw [fileN_len] at this; omega
    clear fl fc fo fz FM E1
    obtain ⟨i0, i1, i2, i3⟩ := cellsD X3.out
    go_wp2_with fail
    refine (EN.out).mono ?_
    rintro e w4 ⟨⟨y, d, rfl, hs⟩, hb4⟩
    have B4 : Hid (Below w.heap.size w w4) := B3.out.trans (hb4.mono B3.out.size)
    have HY : Hid (BySl y l w4) := hs.bysl
    clear hb4 hs i0 i1 i2 i3 EN
    go_wp2_with fail
    refine (equalB x y l.length c d l _ rfl (by have := LZ.out; omega) (HX.out.up B4.out).at HY.out.at).mono ?_
    rintro e w7 ⟨rfl, hb7⟩
    have B7 : Hid (Below w.heap.size w w7) := B4.out.trans (hb7.mono B4.out.size)
    clear hb7
    go_wp2_with fail
    refine (awake_of _).mono ?_
    rintro e w8 ⟨rfl, hb8⟩
    have B8 : Hid (Below w.heap.size w w8) := B7.out.trans (hb8.mono B7.out.size)
    clear hb8
    go_wp2
    go_ret
    exact ⟨by first | rfl | simp, B8.out⟩
end Go.Proofs.Ytkickdmomompjaa
