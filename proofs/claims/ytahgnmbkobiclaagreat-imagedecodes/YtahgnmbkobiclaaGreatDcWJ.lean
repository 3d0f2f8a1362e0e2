/- The walk of ImageDecodes; no statement of the seat is proved here. -/
import Derived.Test.YtahgnmbkobiclaaGreatCuPJ
import Derived.Test.YtahgnmbkobiclaaGreatJnA8
import Derived.Test.YtahgnmbkobiclaaGreatJnB4
namespace Go.Proofs.YtahgnmbkobiclaaGreat
set_option linter.unusedVariables false
set_option linter.unusedSimpArgs false
open Go.RowKit
theorem slb_nil (a : Addr) (n cap : Nat) (w : World) : (binOp .eql 22 (.slice (some a) n cap) (.slice none 0 0)).run Tryz.prog w = .ok (.bool false) w := by kernel_rfl
theorem slb_nilT (w : World) : (binOp .eql 22 (.slice none 0 0) (.slice none 0 0)).run Tryz.prog w = .ok (.bool true) w := by kernel_rfl
theorem ownb_none (w : World) : (w.alloc (.cells #[] 5)).ownsRow w.heap.size 5 1 (.slice (some ⟨w.heap.size, 0, none⟩) 0 0) 0 [] :=
  ⟨rfl, .inr ⟨w.heap.size, 0, #[], rfl, Nat.le_refl _, heap_alloc_last w _, Nat.le_refl _, Nat.zero_le _, rfl, rfl⟩⟩
theorem Sb.cap {B : Nat} {l : List Nat} {x : Option Addr} {n c : Nat} {V : World} (h : Sb B l (.slice x n c) V) : l.length ≤ c := by
  have hn := h.len
  rcases h.2 with ⟨hv, h1⟩ | ⟨g, cap, cur, hv, hb, hg, hc, hm, hs, ht⟩
  · omega
  · cases hv; omega
theorem Sb.bysl {B : Nat} {l : List Nat} {x : Option Addr} {n c : Nat} {V : World} (h : Sb B l (.slice x n c) V) : BySl x l V := fun k b hb => by
  have hl := (List.getElem?_eq_some_iff.1 hb).1
  obtain ⟨a, ha, hs, hc⟩ := h.cell k b hb
  rcases h.2 with ⟨hv, h1⟩ | ⟨g, cap, cur, hv, _⟩
  · omega
  · cases hv
    cases ha
    rw [Addr.add_mid] at hc
    exact ⟨g, 0, rfl, hs, hc⟩
/-- The bytes of a slice, wherever it points. -/
theorem BySl.at {x : Option Addr} {l : List Nat} {w : World} (h : BySl x l w) (j b : Nat) (hj : l[j]? = some b) : ∃ a, x = some a ∧ a.block < w.heap.size ∧ w.cell? (a.add j) = some (.int .u8 (b : Int)) := by
  obtain ⟨kb, o, e, h1, h2⟩ := h j b hj
  exact ⟨⟨kb, o, none⟩, e, h1, by rw [Addr.add_mid]; exact h2⟩
theorem BySl.up {x : Option Addr} {l : List Nat} {w W : World} (h : BySl x l w) (hb : Below w.heap.size w W) : BySl x l W := fun k b hk => by
  obtain ⟨kb, o, e, h1, h2⟩ := h k b hk
  exact ⟨kb, o, e, Nat.lt_of_lt_of_le h1 hb.size, (hb.cell (p := ⟨kb, o + k, none⟩) h1).trans h2⟩
set_option maxHeartbeats 1000000 in
theorem CloneB (x : Option Addr) (c : Nat) (l : List Nat) (w : World) (hx : BySl x l w) (h0 : x = none → l = [] ∧ c = 0) (hb : l.length ≤ 140737488351232) :
    Calls Tryz.prog 4 #[.slice x l.length c] w fun e w' => (∃ y d, e = .returned (.slice y l.length d) ∧ BySl y l w' ∧ l.length ≤ d) ∧ Below w.heap.size w w' := by
  cases x with
  | none =>
    obtain ⟨rfl, rfl⟩ := h0 rfl
    have sn := slb_nilT
    go_enter Tryz.func4, Tryz.ntmps4
    go_wp2
    go_ret
    first
      | exact ⟨⟨none, ⟨0, rfl⟩, fun k b hk => by simp at hk⟩, Below.refl _ _⟩
      | exact ⟨⟨none, 0, rfl, fun k b hk => by simp at hk, Nat.le_refl _⟩, Below.refl _ _⟩
  | some a =>
    have sn := slb_nil a l.length c
    obtain ⟨i0, hi, hz0, hz1, hz2⟩ := u8_info
    have SRC : Hid (∀ V, Below w.heap.size w V → ∀ (j : Nat) u, (bvL l)[j]? = some u → V.cell? (a.add j) = some u) := fun V hV j u hu => by
      unfold bvL at hu
      rw [List.getElem?_map] at hu
      obtain ⟨b, hb, rfl⟩ := Option.map_eq_some_iff.1 hu
      obtain ⟨a', e, _, h⟩ := (hx.up hV).at j b hb
      cases e
      exact h
    have ONE : Hid (∀ u ∈ bvL l, u.oneCell' = true) := fun u hu => by
      unfold bvL at hu
      obtain ⟨b, _, rfl⟩ := List.mem_map.1 hu
      rfl
    have HL : Hid (l.length ≤ 140737488351232) := hb
    clear hx h0 hb
    go_enter Tryz.func4, Tryz.ntmps4
    go_wp2_with (at_builtin; refine wpList_append_own _ rfl _ _ 22 rfl w.heap.size 5 i0 _ 1 1 Tryz.underlying22 hi hz0 hz1 hz2 rfl (by decide) _ 0 [] rfl (ownb_none w) a l.length c (bvL l) rfl (by rw [bvL_len]; omega) (SRC.out _ ((Below.refl _ _).alloc (Nat.le_refl _) _)) ONE.out (by have := HL.out; simp [maxLen]; omega) (by have := HL.out; omega) (by simp) ?_)
    intro v' w' h1 h2 h3
    have S1 : Hid (Sb w.heap.size l v' w') := by
      first
        | exact h1
        | (have q := h1; rw [Nat.zero_add, List.nil_append] at q; exact q)
    have H2 : Hid _ := h2
    obtain ⟨y, n, d, rfl⟩ := S1.out.form
    have en := S1.out.len
    subst en
    clear h1 h2 h3
    go_wp2
    go_ret
    exact ⟨⟨y, d, rfl, S1.out.bysl, S1.out.cap⟩, ((Below.refl _ _).alloc (Nat.le_refl _) _).grown H2.out (by simp) (fun k e => by cases e; exact Nat.le_refl _)⟩
/-- The image without anything. -/
def im0 : ImR := ⟨⟨#[]⟩, [], [], []⟩
/-- What either Decode tells, as an image. -/
theorem DecZ.im {m : ImR} {f : Int} {lo : Nat} {w : World} {z : Value} (h : DecZ m f lo w z) : ∃ m' x1 c1 x2 c2 x3 c3, m' = (if f = 0 then m else im0) ∧ z = .agg #[.string m'.nm, .slice x1 m'.cs.length c1, .slice x2 m'.fs.length c2, .slice x3 m'.js.length c3] ∧ ImQ (fun b => b < w.heap.size) w m' x1 x2 x3 := by
  by_cases hf : f = 0
  · obtain ⟨x1, c1, x2, c2, x3, c3, e, q⟩ := h.2 hf
    exact ⟨m, x1, c1, x2, c2, x3, c3, by rw [if_pos hf], e, q.sub (fun b hb => hb.2)⟩
  · refine ⟨im0, none, 0, none, 0, none, 0, by rw [if_neg hf], h.1 hf, ?_⟩
    refine ⟨⟨?_, fun _ => rfl, fun a e => by cases e⟩, ⟨?_, fun _ => rfl, fun a e => by cases e⟩, ⟨?_, fun _ => rfl, fun a e => by cases e⟩⟩
    all_goals (show few 0; unfold few; omega)
theorem cellsD {V : World} {g : Nat} {a b c d : Value} {T : TypeId} {f : Nat × Nat} (h : V.heap[g]? = some (.cells #[a, b, c, d] T f)) : V.cell? ⟨g, 0, none⟩ = some a ∧ V.cell? ⟨g, 1, none⟩ = some b ∧ V.cell? ⟨g, 2, none⟩ = some c ∧ V.cell? ⟨g, 3, none⟩ = some d :=
  ⟨by simp [World.cell?, h], by simp [World.cell?, h], by simp [World.cell?, h], by simp [World.cell?, h]⟩
set_option maxRecDepth 20000 in
set_option maxHeartbeats 8000000 in
theorem imdecodes_walk (x : Option Addr) (c : Nat) (l : List Nat) (w : World) (h8 : ∀ b ∈ l, b < 256) (hx : BySl x l w) (h0 : x = none → l = [] ∧ c = 0) (hc : l.length ≤ c) (hb : l.length ≤ 140737488351232) :
    Calls Tryz.prog 3 #[.slice x l.length c] w fun e w' => e = .returned (.bool true) ∧ Below w.heap.size w w' := by
  have HX : Hid (BySl x l w) := hx
  have H8 : Hid (∀ b ∈ l, b < 256) := h8
  have HC : Hid (l.length ≤ c) := hc
  have HL : Hid (l.length ≤ 140737488351232) := hb
  have CL : Hid (Calls Tryz.prog 4 #[.slice x l.length c] w fun e w' => (∃ y d, e = .returned (.slice y l.length d) ∧ BySl y l w' ∧ l.length ≤ d) ∧ Below w.heap.size w w') := CloneB x c l w hx h0 hb
  clear hx h8 hc hb h0
  go_enter Tryz.func3, Tryz.ntmps3
  go_wp2_with fail
  refine (CL.out).mono ?_
  rintro e w1 ⟨⟨y, d, rfl, hy, hd⟩, hb1⟩
  have B1 : Hid (Below w.heap.size w w1) := hb1
  have HY : Hid (BySl y l w1) := hy
  have HD : Hid (l.length ≤ d) := hd
  clear hb1 hy hd CL
  have P1 : Hid (Calls Tryz.prog 5 #[.slice y l.length d] w1 fun e w' => (∃ z, e = .returned (.tuple #[z, .int .i64 (decE l).1, .int .i64 (decE l).2]) ∧ DecZ (decM l) (decE l).2 w1.heap.size w' z) ∧ Below w1.heap.size w1 w') := DecodeX y d l w1 H8.out HY.out HD.out
  have P2 : Hid (∀ V, Below w.heap.size w V → Calls Tryz.prog 6 #[.slice x l.length c] V fun e w' => (∃ z, e = .returned (.tuple #[z, .int .i64 (decE l).1, .int .i64 (decE l).2]) ∧ DecZ (decM l) (decE l).2 V.heap.size w' z) ∧ Below V.heap.size V w') := fun V hV => DecodeR x c l V H8.out (HX.out.up hV) HC.out
  generalize (decE l).1 = a at *
  generalize (decE l).2 = b at *
  generalize (decM l) = m at *
  go_wp2_with fail
  refine (P1.out).mono ?_
  rintro e w2 ⟨⟨z, rfl, hz⟩, hb2⟩
  obtain ⟨m1, x1, c1, x2, c2, x3, c3, e1, rfl, hq⟩ := hz.im
  have B2 : Hid (Below w1.heap.size w1 w2) := hb2
  have Q2 : Hid (ImQ (fun b => b < w2.heap.size) w2 m1 x1 x2 x3) := hq
  have E1 : Hid (m1 = if b = 0 then m else im0) := e1
  clear hb2 hq hz e1 P1
  go_upto_region 3 with fail
  obtain ⟨V2, eV⟩ : ∃ V, V = w2.alloc (.cells #[.string m1.nm, .slice x1 m1.cs.length c1, .slice x2 m1.fs.length c2, .slice x3 m1.js.length c3] 28 (0, 0)) := ⟨_, rfl⟩
  obtain ⟨g1, eg⟩ : ∃ g, g = w2.heap.size := ⟨_, rfl⟩
  rw [← eV]
  try rw [← eg]
  have A2 : Below w2.heap.size w2 V2 := by rw [eV]; exact al_below _ _
  have B3 : Hid (Below w.heap.size w V2) := B1.out.trans ((B2.out.trans (A2.mono B2.out.size)).mono B1.out.size)
  have Q3 : Hid (ImQ (fun b => b < V2.heap.size) V2 m1 x1 x2 x3) := Q2.out.old A2
  have X3 : Hid (V2.heap[g1]? = some (.cells #[.string m1.nm, .slice x1 m1.cs.length c1, .slice x2 m1.fs.length c2, .slice x3 m1.js.length c3] 28 (0, 0))) := by rw [eV, eg]; exact heap_alloc_last _ _
  have HY3 : Hid (BySl y l V2) := HY.out.up (B2.out.trans (A2.mono B2.out.size))
  clear A2 eV eg Q2 HY
  go_wp2_with fail
  refine (P2.out _ B3.out).mono ?_
  rintro e w4 ⟨⟨z, rfl, hz⟩, hb4⟩
  obtain ⟨m2, y1, d1, y2, d2, y3, d3, e2, rfl, hq⟩ := hz.im
  have em : m2 = m1 := e2.trans E1.out.symm
  subst em
  have B4 : Hid (Below V2.heap.size V2 w4) := hb4
  have Q4 : Hid (ImQ (fun b => b < w4.heap.size) w4 m2 y1 y2 y3) := hq
  clear hb4 hq hz e2 P2 E1
  go_upto_region 4 with fail
  obtain ⟨V4, eV⟩ : ∃ V, V = w4.alloc (.cells #[.string m2.nm, .slice y1 m2.cs.length d1, .slice y2 m2.fs.length d2, .slice y3 m2.js.length d3] 28 (0, 0)) := ⟨_, rfl⟩
  obtain ⟨g2, eg⟩ : ∃ g, g = w4.heap.size := ⟨_, rfl⟩
  rw [← eV]
  try rw [← eg]
  have A4 : Below w4.heap.size w4 V4 := by rw [eV]; exact al_below _ _
  have C4 : Below V2.heap.size V2 V4 := B4.out.trans (A4.mono B4.out.size)
  have B5 : Hid (Below w.heap.size w V4) := B3.out.trans (C4.mono B3.out.size)
  have Q5 : Hid (ImQ (fun b => b < V4.heap.size) V4 m2 y1 y2 y3) := Q4.out.old A4
  have R5 : Hid (ImQ (fun b => b < V4.heap.size) V4 m2 x1 x2 x3) := Q3.out.old C4
  have X5 : Hid (V4.heap[g1]? = some (.cells #[.string m2.nm, .slice x1 m2.cs.length c1, .slice x2 m2.fs.length c2, .slice x3 m2.js.length c3] 28 (0, 0))) := (C4.block _ (blk_in' X3.out)).trans X3.out
  have Y5 : Hid (V4.heap[g2]? = some (.cells #[.string m2.nm, .slice y1 m2.cs.length d1, .slice y2 m2.fs.length d2, .slice y3 m2.js.length d3] 28 (0, 0))) := by rw [eV, eg]; exact heap_alloc_last _ _
  have HY5 : Hid (BySl y l V4) := HY3.out.up C4
  clear A4 C4 eV eg Q3 Q4 X3 HY3 B4 B3 B2 B1
  have ea : (a == a) = true := by simp
  have eb : (b == b) = true := by simp
  obtain ⟨i0, i1, i2, i3⟩ := cellsD X5.out
  obtain ⟨j0, j1, j2, j3⟩ := cellsD Y5.out
  go_wp2_with fail
  refine (SameImage_of m2 m2 x1 x2 x3 y1 y2 y3 c1 c2 c3 d1 d2 d3 _ (fun b q => q) R5.out Q5.out).mono ?_
  first | (rintro e w6 ⟨he, hb6⟩) | (rintro e w6 he hb6)
  subst he
  have B6 : Hid (Below w.heap.size w w6) := B5.out.trans (hb6.mono B5.out.size)
  have HY6 : Hid (BySl y l w6) := HY5.out.up hb6
  have em : decide (m2 = m2) = true := by simp
  clear hb6 i0 i1 i2 i3 j0 j1 j2 j3
  go_wp2_with fail
  refine (equalB y x l.length d c l _ rfl (by have := HL.out; omega) HY6.out.at (HX.out.up B6.out).at).mono ?_
  rintro e w7 ⟨rfl, hb7⟩
  have B7 : Hid (Below w.heap.size w w7) := B6.out.trans (hb7.mono B6.out.size)
  clear hb7
  go_wp2_with fail
  refine (awake_of _).mono ?_
  rintro e w8 ⟨rfl, hb8⟩
  have B8 : Hid (Below w.heap.size w w8) := B7.out.trans (hb8.mono B7.out.size)
  clear hb8
  go_wp2
  go_ret
  exact ⟨by first | rfl | simp, B8.out⟩
end Go.Proofs.YtahgnmbkobiclaaGreat
