/- The document's sameness of statements; no statement of the seat is proved here. -/
import Derived.Test.YtcoeinfopfcekaaTrU0
import Derived.Test.YtcoeinfopfcekaaTrG
import Derived.Deep.RegionHeld3
import Derived.Deep.DeepCutAuto
import Derived.Handy
namespace Go.Proofs.Ytcoeinfopfcekaa
set_option linter.unusedVariables false
open Go.RowKit
theorem put_none {a : Act} {d : Option Tmp} {v : Value} (h : d = none) : a.put d v = a := by subst h; rfl
theorem there_of {w : World} {h : Nat} {A : Array Value} {t : TypeId} (e : w.heap[h]? = some (.cells A t (0, 0))) (hs : A.size = 14) : w.there h 0 14 := by
  intro j hj
  exact ⟨by simp only [World.cell?, e]; simp; omega, by simp [World.frozen?, e]⟩
theorem there2 (w : World) (A : Array Value) (t : TypeId) (hA : A.size = 14) : ((w.alloc (.cells A t)).alloc (.cells A t)).there w.heap.size 0 14 ∧ ((w.alloc (.cells A t)).alloc (.cells A t)).there (w.heap.size + 1) 0 14 := by
  refine ⟨there_of ((((Below.refl _ _).alloc (Nat.le_refl _) _).block w.heap.size (by simp)).trans (heap_alloc_last w _)) hA, there_of (A := A) (t := t) ?_ hA⟩
  have := heap_alloc_last (w.alloc (.cells A t)) (.cells A t)
  rwa [World.size_alloc] at this
theorem bl_two (w : World) (o p : Obj) : Below w.heap.size w ((w.alloc o).alloc p) := ((Below.refl _ _).alloc (Nat.le_refl _) _).alloc (by simp) _
theorem bl_set {B : Nat} {a w : World} (h : Below B a w) {b : Nat} (hb : B ≤ b) (o : Nat) (vs : List Value) : Below B a (w.setCells b o vs) := by
  induction vs generalizing o w with
  | nil => exact h
  | cons v vs ih => exact ih (h.setCell hb v) (o + 1)
/-- A statement's box. -/
structure BxS (w : World) (g : Nat) (h : SH) (a1 a2 a3 a4 a5 a6 a7 : Value) : Prop where
  c0 : w.cell? ⟨g, 0, none⟩ = some (.int .i64 h.op)
  c1 : w.cell? ⟨g, 1, none⟩ = some (.int .i64 h.pl)
  c2 : w.cell? ⟨g, 2, none⟩ = some (.string h.nm)
  c3 : w.cell? ⟨g, 3, none⟩ = some (.int .i64 h.nu)
  c4 : w.cell? ⟨g, 4, none⟩ = some (a1)
  c5 : w.cell? ⟨g, 5, none⟩ = some (a2)
  c6 : w.cell? ⟨g, 6, none⟩ = some (a3)
  c7 : w.cell? ⟨g, 7, none⟩ = some (a4)
  c8 : w.cell? ⟨g, 8, none⟩ = some (a5)
  c9 : w.cell? ⟨g, 9, none⟩ = some (a6)
  c10 : w.cell? ⟨g, 10, none⟩ = some (a7)
  c11 : w.cell? ⟨g, 11, none⟩ = some (.int .u8 h.kd)
  c12 : w.cell? ⟨g, 12, none⟩ = some (.int .i64 h.ar)
  c13 : w.cell? ⟨g, 13, none⟩ = some (.int .i64 h.rf)
theorem bx_range {w : World} {g : Nat} {h : SH} {a1 a2 a3 a4 a5 a6 a7 : Value} (r : w.rangeAt g 0 [.int .i64 h.op, .int .i64 h.pl, .string h.nm, .int .i64 h.nu, a1, a2, a3, a4, a5, a6, a7, .int .u8 h.kd, .int .i64 h.ar, .int .i64 h.rf]) : BxS w g h a1 a2 a3 a4 a5 a6 a7 :=
  ⟨by simpa using r 0 _ rfl, by simpa using r 1 _ rfl, by simpa using r 2 _ rfl, by simpa using r 3 _ rfl, by simpa using r 4 _ rfl, by simpa using r 5 _ rfl, by simpa using r 6 _ rfl, by simpa using r 7 _ rfl, by simpa using r 8 _ rfl, by simpa using r 9 _ rfl, by simpa using r 10 _ rfl, by simpa using r 11 _ rfl, by simpa using r 12 _ rfl, by simpa using r 13 _ rfl⟩
theorem BxS.below {w w' : World} {g B : Nat} {h : SH} {a1 a2 a3 a4 a5 a6 a7 : Value} (r : BxS w g h a1 a2 a3 a4 a5 a6 a7) (hb : Below B w w') (q : g < B) : BxS w' g h a1 a2 a3 a4 a5 a6 a7 :=
  ⟨(hb.cell (p := ⟨g, 0, none⟩) q).trans r.c0, (hb.cell (p := ⟨g, 1, none⟩) q).trans r.c1, (hb.cell (p := ⟨g, 2, none⟩) q).trans r.c2, (hb.cell (p := ⟨g, 3, none⟩) q).trans r.c3, (hb.cell (p := ⟨g, 4, none⟩) q).trans r.c4, (hb.cell (p := ⟨g, 5, none⟩) q).trans r.c5, (hb.cell (p := ⟨g, 6, none⟩) q).trans r.c6, (hb.cell (p := ⟨g, 7, none⟩) q).trans r.c7, (hb.cell (p := ⟨g, 8, none⟩) q).trans r.c8, (hb.cell (p := ⟨g, 9, none⟩) q).trans r.c9, (hb.cell (p := ⟨g, 10, none⟩) q).trans r.c10, (hb.cell (p := ⟨g, 11, none⟩) q).trans r.c11, (hb.cell (p := ⟨g, 12, none⟩) q).trans r.c12, (hb.cell (p := ⟨g, 13, none⟩) q).trans r.c13⟩
theorem SvF.parts {S : Nat → Prop} {d : Nat} {w : World} {h h' : SH} {x1 x2 x3 x4 x5 x6 x7 : Option Addr} {n1 n2 n3 n4 n5 n6 n7 c1 c2 c3 c4 c5 c6 c7 : Nat} {es : List Ex} {ns : List ByteArray} {os : List Ex} {on : List ByteArray} {rs : List (Int × Int)} {b e : List St}
    (v : SvF S d w (SV h (.slice x1 n1 c1) (.slice x2 n2 c2) (.slice x3 n3 c3) (.slice x4 n4 c4) (.slice x5 n5 c5) (.slice x6 n6 c6) (.slice x7 n7 c7)) (.mk h' es ns os on rs b e)) :
    KdF S d w x1 es ∧ (NmF S w x2 ns ∧ few ns.length) ∧ KdF S d w x3 os ∧ (NmF S w x4 on ∧ few on.length) ∧ (RgF S w x5 rs ∧ few rs.length) ∧ StL S d w x6 b ∧ StL S d w x7 e := by
  obtain ⟨y1, d1, y2, d2, y3, d3, y4, d4, y5, d5, y6, d6, y7, d7, hv, k1, m1, f1, k2, m2, f2, g1, f3, l1, l2⟩ := v
  simp only [Value.agg.injEq, Array.mk.injEq, List.cons.injEq, Value.slice.injEq] at hv
  obtain ⟨_, _, _, _, ⟨rfl, _, _⟩, ⟨rfl, _, _⟩, ⟨rfl, _, _⟩, ⟨rfl, _, _⟩, ⟨rfl, _, _⟩, ⟨rfl, _, _⟩, ⟨rfl, _, _⟩, _⟩ := hv
  exact ⟨k1, ⟨m1, f1⟩, k2, ⟨m2, f2⟩, ⟨g1, f3⟩, l1, l2⟩
/-- What the document's Same answers. -/
def SdL (d : Nat) : Prop := ∀ (w : World) (x x' : Option Addr) (l l' : List St) (c c' : Nat), StL (fun b => b < w.heap.size) d w x l → StL (fun b => b < w.heap.size) d w x' l' →
  Calls Try.prog 20 #[.slice x l.length c, .slice x' l'.length c'] w fun e w' => e = .returned (.bool (smL (smS d) l l')) ∧ Below w.heap.size w w'
theorem fe_bad1 (H r0 r1 r2 r3 r4 r5 r6 : Bool) (p : (H && r0 && r1) = false) : (H && (r1 && r3 && r4 && r0 && r2 && r5 && r6)) = false := by revert p; revert H r0 r1 r2 r3 r4 r5 r6; decide
theorem fe_bad2 (H r0 r1 r2 r3 r4 r5 r6 : Bool) (p : (r2 && r3 && r4 && r5 && r6) = false) : (H && (r1 && r3 && r4 && r0 && r2 && r5 && r6)) = false := by revert p; revert H r0 r1 r2 r3 r4 r5 r6; decide
theorem fe_good (H r0 r1 r2 r3 r4 r5 r6 : Bool) (p : (H && r0 && r1) = true) (q : (r2 && r3 && r4 && r5 && r6) = true) : (H && (r1 && r3 && r4 && r0 && r2 && r5 && r6)) = true := by revert p q; revert H r0 r1 r2 r3 r4 r5 r6; decide
set_option maxRecDepth 20000 in
set_option maxHeartbeats 8000000 in
theorem sameDL (d : Nat) (x y : Option Addr) (l l' : List St) (c c2 : Nat) (w : World) (ha : StL (fun b => b < w.heap.size) (d + 1) w x l) (hb : StL (fun b => b < w.heap.size) (d + 1) w y l')
    (hL : l ≠ [] → SdL d) :
    Calls Try.prog 20 #[.slice x l.length c, .slice y l'.length c2] w fun e w' => e = .returned (.bool (smL (smS (d + 1)) l l')) ∧ Below w.heap.size w w' := by
  have HA : Hid (StL (fun b => b < w.heap.size) (d + 1) w x l) := ha
  have HB : Hid (StL (fun b => b < w.heap.size) (d + 1) w y l') := hb
  have HL : Hid (l ≠ [] → SdL d) := hL
  clear hL
  clear ha hb
  by_cases el : l.length = l'.length
  · generalize hn : l'.length = n at *
    have HN : Hid _ := hn
    clear hn
    subst el
    go_enter Try.func20, Try.ntmps20
    go_wp2_with fail
    go_loopw [15] (fun i wr => ∃ k : Nat, k ≤ l.length ∧ i = .int .i64 k ∧ Below w.heap.size w wr ∧ ∀ (j : Nat) e e', j < k → l[j]? = some e → l'[j]? = some e' → smS (d + 1) e e' = true) (fun i _ => l.length - (intOf i).toNat)
    case atStart => exact ⟨0, Nat.zero_le _, rfl, Below.refl _ _, fun j _ _ hj => absurd hj (Nat.not_lt_zero _)⟩
    case round =>
      obtain ⟨k, hk, rfl, hbw, hall⟩ := hrel
      have HW : Hid (Below w.heap.size w wr) := hbw
      have AL : Hid _ := hall
      clear hall
      by_cases hlt : k < l.length
      · obtain ⟨a, rfl⟩ : ∃ a, x = some a := by
          cases x with
          | none => have := HA.out.2.1 rfl; rw [this] at hlt; exact absurd hlt (Nat.not_lt_zero _)
          | some a => exact ⟨a, rfl⟩
        obtain ⟨b, rfl⟩ : ∃ b, y = some b := by
          cases y with
          | none => have := HB.out.2.1 rfl; have q := HN.out; rw [this] at q; simp at q; omega
          | some b => exact ⟨b, rfl⟩
        obtain ⟨h1, es1, ns1, os1, on1, rs1, b1, e1, p10, q10, p11, q11, p12, q12, p13, q13, p14, q14, p15, q15, p16, q16, ee1, hp1, ec1, ev1⟩ := (HA.out.fr (old_fr hbw)).el k hlt
        obtain ⟨h2, es2, ns2, os2, on2, rs2, b2, e2, p20, q20, p21, q21, p22, q22, p23, q23, p24, q24, p25, q25, p26, q26, ee2, hp2, ec2, ev2⟩ := (HB.out.fr (old_fr hbw)).el k (by have := HN.out; omega)
        have E1 : Hid _ := ee1
        have E2 : Hid _ := ee2
        have V1 : Hid (SvF (fun b => b < w.heap.size) d wr (SV h1 (.slice p10 es1.length q10) (.slice p11 ns1.length q11) (.slice p12 os1.length q12) (.slice p13 on1.length q13) (.slice p14 rs1.length q14) (.slice p15 b1.length q15) (.slice p16 e1.length q16)) (St.mk h1 es1 ns1 os1 on1 rs1 b1 e1)) := ev1
        have V2 : Hid (SvF (fun b => b < w.heap.size) d wr (SV h2 (.slice p20 es2.length q20) (.slice p21 ns2.length q21) (.slice p22 os2.length q22) (.slice p23 on2.length q23) (.slice p24 rs2.length q24) (.slice p25 b2.length q25) (.slice p26 e2.length q26)) (St.mk h2 es2 ns2 os2 on2 rs2 b2 e2)) := ev2
        have LT : Hid _ := hlt
        have kl : (k : Int) < l.length := by omega
        obtain ⟨x0, x1, x2, x3, x4, x5, x6, x7, x8, x9, x10, x11, x12, x13⟩ := ec1
        obtain ⟨y0, y1, y2, y3, y4, y5, y6, y7, y8, y9, y10, y11, y12, y13⟩ := ec2
        clear hbw hlt ee1 ee2 ev1 ev2 hp1 hp2
        have za := block_lt_of_cell x0
        have zb := block_lt_of_cell y0
        go_upto_region 6 with fail
        go_cut [6, 7] (fun s6 s7 wx => ∃ hx hy, s6 = .pointer (some ⟨hx, 0, none⟩) ∧ s7 = .pointer (some ⟨hy, 0, none⟩) ∧ BxS wx hx h1 (.slice p10 es1.length q10) (.slice p11 ns1.length q11) (.slice p12 os1.length q12) (.slice p13 on1.length q13) (.slice p14 rs1.length q14) (.slice p15 b1.length q15) (.slice p16 e1.length q16) ∧ BxS wx hy h2 (.slice p20 es2.length q20) (.slice p21 ns2.length q21) (.slice p22 os2.length q22) (.slice p23 on2.length q23) (.slice p24 rs2.length q24) (.slice p25 b2.length q25) (.slice p26 e2.length q26) ∧ wr.heap.size ≤ hx ∧ wr.heap.size ≤ hy ∧ Below wr.heap.size wr wx)
        case first =>
          have cx : ∀ W : World, Below wr.heap.size wr W → ∀ o, W.cell? ⟨(a.add (k * 14)).block, o, none⟩ = wr.cell? ⟨(a.add (k * 14)).block, o, none⟩ := fun W hb o => hb.cell (p := ⟨(a.add (k * 14)).block, o, none⟩) za
          have cx0 : ∀ W : World, Below wr.heap.size wr W → W.cell? (a.add (k * 14)) = wr.cell? (a.add (k * 14)) := fun W hb => hb.cell (p := a.add (k * 14)) za
          have cy : ∀ W : World, Below wr.heap.size wr W → ∀ o, W.cell? ⟨(b.add (k * 14)).block, o, none⟩ = wr.cell? ⟨(b.add (k * 14)).block, o, none⟩ := fun W hb o => hb.cell (p := ⟨(b.add (k * 14)).block, o, none⟩) zb
          have cy0 : ∀ W : World, Below wr.heap.size wr W → W.cell? (b.add (k * 14)) = wr.cell? (b.add (k * 14)) := fun W hb => hb.cell (p := b.add (k * 14)) zb
          refine wp_region_held_drew (S := fun w' => Below wr.heap.size wr w') (by kernel_rfl) ((Below.refl _ _).drew) (fun hHeld => ?_)
          refine wpAnyH_take (i := 0) (v := .slice (some a) l.length c) rfl (by kernel_rfl) (by kernel_rfl) (by kernel_rfl) (fun _ _ _ h => h) (Or.inl ⟨by rfl, fun W hW => ?_⟩) hHeld ?_
          · go_simp
          simp only [Act.put, List.setIfInBounds_toArray]
          refine wpAnyH_take (i := 1) (v := .int .i64 k) rfl (by kernel_rfl) (by kernel_rfl) (by kernel_rfl) (fun _ _ _ h => h) (Or.inl ⟨by rfl, fun W hW => ?_⟩) hHeld ?_
          · go_simp
          simp only [Act.put]
          refine wpAnyH_take (i := 2) (v := .pointer (some (a.add (k * 14)))) rfl (by kernel_rfl) (by kernel_rfl) (by kernel_rfl) (fun _ _ _ h => h) (Or.inl ⟨by rfl, fun W hW => ?_⟩) hHeld ?_
          · go_simp
          simp only [Act.put]
          refine wpAnyH_take (i := 3) (v := .agg ([.int .i64 h1.op, .int .i64 h1.pl, .string h1.nm, .int .i64 h1.nu, .slice p10 es1.length q10, .slice p11 ns1.length q11, .slice p12 os1.length q12, .slice p13 on1.length q13, .slice p14 rs1.length q14, .slice p15 b1.length q15, .slice p16 e1.length q16, .int .u8 h1.kd, .int .i64 h1.ar, .int .i64 h1.rf] : List Value).toArray) rfl (by kernel_rfl) (by kernel_rfl) (by kernel_rfl) (fun _ _ _ h => h) (Or.inl ⟨by rfl, fun W hW => ?_⟩) hHeld ?_
          · go_simp
          simp only [Act.put]
          refine wpAnyH_take (i := 4) (v := .slice (some b) l.length c2) rfl (by kernel_rfl) (by kernel_rfl) (by kernel_rfl) (fun _ _ _ h => h) (Or.inl ⟨by rfl, fun W hW => ?_⟩) hHeld ?_
          · go_simp
          simp only [Act.put]
          refine wpAnyH_take (i := 5) (v := .int .i64 k) rfl (by kernel_rfl) (by kernel_rfl) (by kernel_rfl) (fun _ _ _ h => h) (Or.inl ⟨by rfl, fun W hW => ?_⟩) hHeld ?_
          · go_simp
          simp only [Act.put]
          refine wpAnyH_take (i := 6) (v := .pointer (some (b.add (k * 14)))) rfl (by kernel_rfl) (by kernel_rfl) (by kernel_rfl) (fun _ _ _ h => h) (Or.inl ⟨by rfl, fun W hW => ?_⟩) hHeld ?_
          · go_simp
          simp only [Act.put]
          refine wpAnyH_take (i := 7) (v := .agg ([.int .i64 h2.op, .int .i64 h2.pl, .string h2.nm, .int .i64 h2.nu, .slice p20 es2.length q20, .slice p21 ns2.length q21, .slice p22 os2.length q22, .slice p23 on2.length q23, .slice p24 rs2.length q24, .slice p25 b2.length q25, .slice p26 e2.length q26, .int .u8 h2.kd, .int .i64 h2.ar, .int .i64 h2.rf] : List Value).toArray) rfl (by kernel_rfl) (by kernel_rfl) (by kernel_rfl) (fun _ _ _ h => h) (Or.inl ⟨by rfl, fun W hW => ?_⟩) hHeld ?_
          · go_simp
          simp only [Act.put]
          refine wpAnyH_ready (rs := [8, 9]) (by kernel_rfl) (by simp) ?_
          refine AllReadyH.cons (o := _) rfl (fun K hK => ?_) (AllReadyH.cons (o := _) rfl (fun K hK => ?_) AllReadyH.nil)
          · go_simp
            refine hK.out _ _ (by go_grown) (fun hHeld => ?_)
            clear hK K
            refine wpAnyH_ready (rs := [9]) (by kernel_rfl) (by simp) ?_
            refine AllReadyH.cons (o := _) rfl (fun K hK => ?_) AllReadyH.nil
            go_simp
            refine hK.out _ _ (by go_grown) (fun hHeld => ?_)
            clear hK K
            have T1 : ((wr.alloc (.cells #[.int .i64 0, .int .i64 0, .string ⟨#[]⟩, .int .i64 0, .slice none 0 0, .slice none 0 0, .slice none 0 0, .slice none 0 0, .slice none 0 0, .slice none 0 0, .slice none 0 0, .int .u8 0, .int .i64 0, .int .i64 0] 65)).alloc (.cells #[.int .i64 0, .int .i64 0, .string ⟨#[]⟩, .int .i64 0, .slice none 0 0, .slice none 0 0, .slice none 0 0, .slice none 0 0, .slice none 0 0, .slice none 0 0, .slice none 0 0, .int .u8 0, .int .i64 0, .int .i64 0] 65)).there (wr.heap.size) 0 14 := (there2 wr _ _ rfl).1
            have T2 : ((wr.alloc (.cells #[.int .i64 0, .int .i64 0, .string ⟨#[]⟩, .int .i64 0, .slice none 0 0, .slice none 0 0, .slice none 0 0, .slice none 0 0, .slice none 0 0, .slice none 0 0, .slice none 0 0, .int .u8 0, .int .i64 0, .int .i64 0] 65)).alloc (.cells #[.int .i64 0, .int .i64 0, .string ⟨#[]⟩, .int .i64 0, .slice none 0 0, .slice none 0 0, .slice none 0 0, .slice none 0 0, .slice none 0 0, .slice none 0 0, .slice none 0 0, .int .u8 0, .int .i64 0, .int .i64 0] 65)).there (wr.heap.size + 1) 0 14 := (there2 wr _ _ rfl).2
            have T3 := bl_two wr (.cells #[.int .i64 0, .int .i64 0, .string ⟨#[]⟩, .int .i64 0, .slice none 0 0, .slice none 0 0, .slice none 0 0, .slice none 0 0, .slice none 0 0, .slice none 0 0, .slice none 0 0, .int .u8 0, .int .i64 0, .int .i64 0] 65) (.cells #[.int .i64 0, .int .i64 0, .string ⟨#[]⟩, .int .i64 0, .slice none 0 0, .slice none 0 0, .slice none 0 0, .slice none 0 0, .slice none 0 0, .slice none 0 0, .slice none 0 0, .int .u8 0, .int .i64 0, .int .i64 0] 65)
            generalize (wr.alloc (.cells #[.int .i64 0, .int .i64 0, .string ⟨#[]⟩, .int .i64 0, .slice none 0 0, .slice none 0 0, .slice none 0 0, .slice none 0 0, .slice none 0 0, .slice none 0 0, .slice none 0 0, .int .u8 0, .int .i64 0, .int .i64 0] 65)).alloc (.cells #[.int .i64 0, .int .i64 0, .string ⟨#[]⟩, .int .i64 0, .slice none 0 0, .slice none 0 0, .slice none 0 0, .slice none 0 0, .slice none 0 0, .slice none 0 0, .slice none 0 0, .int .u8 0, .int .i64 0, .int .i64 0] 65) = W2 at T1 T2 T3 hHeld ⊢
            refine wpAnyH_ready (rs := [10]) (by kernel_rfl) (by simp) ?_
            refine AllReadyH.cons (o := _) rfl (fun K hK => ?_) AllReadyH.nil
            rw [if_pos (by rfl)]
            refine wp_store_mid 65 _ _ rfl (wr.heap.size) 0 ([.int .i64 h1.op, .int .i64 h1.pl, .string h1.nm, .int .i64 h1.nu, .slice p10 es1.length q10, .slice p11 ns1.length q11, .slice p12 os1.length q12, .slice p13 on1.length q13, .slice p14 rs1.length q14, .slice p15 b1.length q15, .slice p16 e1.length q16, .int .u8 h1.kd, .int .i64 h1.ar, .int .i64 h1.rf] : List Value).toArray rfl rfl ?_ (by kernel_rfl) (all_oneCell_toArray (by intro v hv; simp at hv; rcases hv with rfl | rfl | rfl | rfl | rfl | rfl | rfl | rfl | rfl | rfl | rfl | rfl | rfl | rfl <;> rfl)) ?_
            · exact T1
            have R1 := World.rangeAt_setCells_same W2.drew (wr.heap.size) 0 [.int .i64 h1.op, .int .i64 h1.pl, .string h1.nm, .int .i64 h1.nu, .slice p10 es1.length q10, .slice p11 ns1.length q11, .slice p12 os1.length q12, .slice p13 on1.length q13, .slice p14 rs1.length q14, .slice p15 b1.length q15, .slice p16 e1.length q16, .int .u8 h1.kd, .int .i64 h1.ar, .int .i64 h1.rf] T1
            have T4 := World.there_setCells T2 (wr.heap.size) 0 [.int .i64 h1.op, .int .i64 h1.pl, .string h1.nm, .int .i64 h1.nu, .slice p10 es1.length q10, .slice p11 ns1.length q11, .slice p12 os1.length q12, .slice p13 on1.length q13, .slice p14 rs1.length q14, .slice p15 b1.length q15, .slice p16 e1.length q16, .int .u8 h1.kd, .int .i64 h1.ar, .int .i64 h1.rf]
            have B4 := bl_set T3.drew (show wr.heap.size ≤ wr.heap.size by omega) 0 [.int .i64 h1.op, .int .i64 h1.pl, .string h1.nm, .int .i64 h1.nu, .slice p10 es1.length q10, .slice p11 ns1.length q11, .slice p12 os1.length q12, .slice p13 on1.length q13, .slice p14 rs1.length q14, .slice p15 b1.length q15, .slice p16 e1.length q16, .int .u8 h1.kd, .int .i64 h1.ar, .int .i64 h1.rf]
            refine hK.out _ _ B4 (fun hHeld => ?_)
            clear hK K
            change W2.drew.there (wr.heap.size + 1) 0 14 at T2
            replace T4 : (W2.drew.setCells (wr.heap.size) 0 [.int .i64 h1.op, .int .i64 h1.pl, .string h1.nm, .int .i64 h1.nu, .slice p10 es1.length q10, .slice p11 ns1.length q11, .slice p12 os1.length q12, .slice p13 on1.length q13, .slice p14 rs1.length q14, .slice p15 b1.length q15, .slice p16 e1.length q16, .int .u8 h1.kd, .int .i64 h1.ar, .int .i64 h1.rf]).there (wr.heap.size + 1) 0 14 := World.there_setCells T2 (wr.heap.size) 0 [.int .i64 h1.op, .int .i64 h1.pl, .string h1.nm, .int .i64 h1.nu, .slice p10 es1.length q10, .slice p11 ns1.length q11, .slice p12 os1.length q12, .slice p13 on1.length q13, .slice p14 rs1.length q14, .slice p15 b1.length q15, .slice p16 e1.length q16, .int .u8 h1.kd, .int .i64 h1.ar, .int .i64 h1.rf]
            change wpAnyH _ _ _ _ _ _ _ _ (W2.drew.setCells (wr.heap.size) 0 [.int .i64 h1.op, .int .i64 h1.pl, .string h1.nm, .int .i64 h1.nu, .slice p10 es1.length q10, .slice p11 ns1.length q11, .slice p12 os1.length q12, .slice p13 on1.length q13, .slice p14 rs1.length q14, .slice p15 b1.length q15, .slice p16 e1.length q16, .int .u8 h1.kd, .int .i64 h1.ar, .int .i64 h1.rf])
            generalize W2.drew.setCells (wr.heap.size) 0 [.int .i64 h1.op, .int .i64 h1.pl, .string h1.nm, .int .i64 h1.nu, .slice p10 es1.length q10, .slice p11 ns1.length q11, .slice p12 os1.length q12, .slice p13 on1.length q13, .slice p14 rs1.length q14, .slice p15 b1.length q15, .slice p16 e1.length q16, .int .u8 h1.kd, .int .i64 h1.ar, .int .i64 h1.rf] = W3 at R1 T4 B4 hHeld ⊢
            rw [put_none (by rfl)]
            refine wpAnyH_ready (rs := [11]) (by kernel_rfl) (by simp) ?_
            refine AllReadyH.cons (o := _) rfl (fun K hK => ?_) AllReadyH.nil
            rw [if_pos (by rfl)]
            refine wp_store_mid 65 _ _ rfl (wr.heap.size + 1) 0 ([.int .i64 h2.op, .int .i64 h2.pl, .string h2.nm, .int .i64 h2.nu, .slice p20 es2.length q20, .slice p21 ns2.length q21, .slice p22 os2.length q22, .slice p23 on2.length q23, .slice p24 rs2.length q24, .slice p25 b2.length q25, .slice p26 e2.length q26, .int .u8 h2.kd, .int .i64 h2.ar, .int .i64 h2.rf] : List Value).toArray rfl rfl ?_ (by kernel_rfl) (all_oneCell_toArray (by intro v hv; simp at hv; rcases hv with rfl | rfl | rfl | rfl | rfl | rfl | rfl | rfl | rfl | rfl | rfl | rfl | rfl | rfl <;> rfl)) ?_
            · exact T4
            have R2 := World.rangeAt_setCells_same W3 (wr.heap.size + 1) 0 [.int .i64 h2.op, .int .i64 h2.pl, .string h2.nm, .int .i64 h2.nu, .slice p20 es2.length q20, .slice p21 ns2.length q21, .slice p22 os2.length q22, .slice p23 on2.length q23, .slice p24 rs2.length q24, .slice p25 b2.length q25, .slice p26 e2.length q26, .int .u8 h2.kd, .int .i64 h2.ar, .int .i64 h2.rf] T4
            have R3 := World.rangeAt_setCells_apart R1 (wr.heap.size + 1) 0 [.int .i64 h2.op, .int .i64 h2.pl, .string h2.nm, .int .i64 h2.nu, .slice p20 es2.length q20, .slice p21 ns2.length q21, .slice p22 os2.length q22, .slice p23 on2.length q23, .slice p24 rs2.length q24, .slice p25 b2.length q25, .slice p26 e2.length q26, .int .u8 h2.kd, .int .i64 h2.ar, .int .i64 h2.rf] (.inl (by omega))
            have B5 := bl_set B4 (show wr.heap.size ≤ wr.heap.size + 1 by omega) 0 [.int .i64 h2.op, .int .i64 h2.pl, .string h2.nm, .int .i64 h2.nu, .slice p20 es2.length q20, .slice p21 ns2.length q21, .slice p22 os2.length q22, .slice p23 on2.length q23, .slice p24 rs2.length q24, .slice p25 b2.length q25, .slice p26 e2.length q26, .int .u8 h2.kd, .int .i64 h2.ar, .int .i64 h2.rf]
            refine hK.out _ _ B5 (fun hHeld => ?_)
            clear hK K
            refine wpAnyH_done (by kernel_rfl) ?_ _
            rw [put_none (by rfl)]
            refine Met.intro ?_
            go_step
            go_meet
            case rel =>
              exact ⟨wr.heap.size, wr.heap.size + 1, rfl, rfl, bx_range R3, bx_range R2, by omega, by omega, B5⟩
          · go_simp
            refine hK.out _ _ (by go_grown) (fun hHeld => ?_)
            clear hK K
            refine wpAnyH_ready (rs := [8]) (by kernel_rfl) (by simp) ?_
            refine AllReadyH.cons (o := _) rfl (fun K hK => ?_) AllReadyH.nil
            go_simp
            refine hK.out _ _ (by go_grown) (fun hHeld => ?_)
            clear hK K
            have T1 : ((wr.alloc (.cells #[.int .i64 0, .int .i64 0, .string ⟨#[]⟩, .int .i64 0, .slice none 0 0, .slice none 0 0, .slice none 0 0, .slice none 0 0, .slice none 0 0, .slice none 0 0, .slice none 0 0, .int .u8 0, .int .i64 0, .int .i64 0] 65)).alloc (.cells #[.int .i64 0, .int .i64 0, .string ⟨#[]⟩, .int .i64 0, .slice none 0 0, .slice none 0 0, .slice none 0 0, .slice none 0 0, .slice none 0 0, .slice none 0 0, .slice none 0 0, .int .u8 0, .int .i64 0, .int .i64 0] 65)).there (wr.heap.size + 1) 0 14 := (there2 wr _ _ rfl).2
            have T2 : ((wr.alloc (.cells #[.int .i64 0, .int .i64 0, .string ⟨#[]⟩, .int .i64 0, .slice none 0 0, .slice none 0 0, .slice none 0 0, .slice none 0 0, .slice none 0 0, .slice none 0 0, .slice none 0 0, .int .u8 0, .int .i64 0, .int .i64 0] 65)).alloc (.cells #[.int .i64 0, .int .i64 0, .string ⟨#[]⟩, .int .i64 0, .slice none 0 0, .slice none 0 0, .slice none 0 0, .slice none 0 0, .slice none 0 0, .slice none 0 0, .slice none 0 0, .int .u8 0, .int .i64 0, .int .i64 0] 65)).there (wr.heap.size) 0 14 := (there2 wr _ _ rfl).1
            have T3 := bl_two wr (.cells #[.int .i64 0, .int .i64 0, .string ⟨#[]⟩, .int .i64 0, .slice none 0 0, .slice none 0 0, .slice none 0 0, .slice none 0 0, .slice none 0 0, .slice none 0 0, .slice none 0 0, .int .u8 0, .int .i64 0, .int .i64 0] 65) (.cells #[.int .i64 0, .int .i64 0, .string ⟨#[]⟩, .int .i64 0, .slice none 0 0, .slice none 0 0, .slice none 0 0, .slice none 0 0, .slice none 0 0, .slice none 0 0, .slice none 0 0, .int .u8 0, .int .i64 0, .int .i64 0] 65)
            generalize (wr.alloc (.cells #[.int .i64 0, .int .i64 0, .string ⟨#[]⟩, .int .i64 0, .slice none 0 0, .slice none 0 0, .slice none 0 0, .slice none 0 0, .slice none 0 0, .slice none 0 0, .slice none 0 0, .int .u8 0, .int .i64 0, .int .i64 0] 65)).alloc (.cells #[.int .i64 0, .int .i64 0, .string ⟨#[]⟩, .int .i64 0, .slice none 0 0, .slice none 0 0, .slice none 0 0, .slice none 0 0, .slice none 0 0, .slice none 0 0, .slice none 0 0, .int .u8 0, .int .i64 0, .int .i64 0] 65) = W2 at T1 T2 T3 hHeld ⊢
            refine wpAnyH_ready (rs := [10]) (by kernel_rfl) (by simp) ?_
            refine AllReadyH.cons (o := _) rfl (fun K hK => ?_) AllReadyH.nil
            rw [if_pos (by rfl)]
            refine wp_store_mid 65 _ _ rfl (wr.heap.size + 1) 0 ([.int .i64 h1.op, .int .i64 h1.pl, .string h1.nm, .int .i64 h1.nu, .slice p10 es1.length q10, .slice p11 ns1.length q11, .slice p12 os1.length q12, .slice p13 on1.length q13, .slice p14 rs1.length q14, .slice p15 b1.length q15, .slice p16 e1.length q16, .int .u8 h1.kd, .int .i64 h1.ar, .int .i64 h1.rf] : List Value).toArray rfl rfl ?_ (by kernel_rfl) (all_oneCell_toArray (by intro v hv; simp at hv; rcases hv with rfl | rfl | rfl | rfl | rfl | rfl | rfl | rfl | rfl | rfl | rfl | rfl | rfl | rfl <;> rfl)) ?_
            · exact T1
            have R1 := World.rangeAt_setCells_same W2.drew (wr.heap.size + 1) 0 [.int .i64 h1.op, .int .i64 h1.pl, .string h1.nm, .int .i64 h1.nu, .slice p10 es1.length q10, .slice p11 ns1.length q11, .slice p12 os1.length q12, .slice p13 on1.length q13, .slice p14 rs1.length q14, .slice p15 b1.length q15, .slice p16 e1.length q16, .int .u8 h1.kd, .int .i64 h1.ar, .int .i64 h1.rf] T1
            have T4 := World.there_setCells T2 (wr.heap.size + 1) 0 [.int .i64 h1.op, .int .i64 h1.pl, .string h1.nm, .int .i64 h1.nu, .slice p10 es1.length q10, .slice p11 ns1.length q11, .slice p12 os1.length q12, .slice p13 on1.length q13, .slice p14 rs1.length q14, .slice p15 b1.length q15, .slice p16 e1.length q16, .int .u8 h1.kd, .int .i64 h1.ar, .int .i64 h1.rf]
            have B4 := bl_set T3.drew (show wr.heap.size ≤ wr.heap.size + 1 by omega) 0 [.int .i64 h1.op, .int .i64 h1.pl, .string h1.nm, .int .i64 h1.nu, .slice p10 es1.length q10, .slice p11 ns1.length q11, .slice p12 os1.length q12, .slice p13 on1.length q13, .slice p14 rs1.length q14, .slice p15 b1.length q15, .slice p16 e1.length q16, .int .u8 h1.kd, .int .i64 h1.ar, .int .i64 h1.rf]
            refine hK.out _ _ B4 (fun hHeld => ?_)
            clear hK K
            change W2.drew.there (wr.heap.size) 0 14 at T2
            replace T4 : (W2.drew.setCells (wr.heap.size + 1) 0 [.int .i64 h1.op, .int .i64 h1.pl, .string h1.nm, .int .i64 h1.nu, .slice p10 es1.length q10, .slice p11 ns1.length q11, .slice p12 os1.length q12, .slice p13 on1.length q13, .slice p14 rs1.length q14, .slice p15 b1.length q15, .slice p16 e1.length q16, .int .u8 h1.kd, .int .i64 h1.ar, .int .i64 h1.rf]).there (wr.heap.size) 0 14 := World.there_setCells T2 (wr.heap.size + 1) 0 [.int .i64 h1.op, .int .i64 h1.pl, .string h1.nm, .int .i64 h1.nu, .slice p10 es1.length q10, .slice p11 ns1.length q11, .slice p12 os1.length q12, .slice p13 on1.length q13, .slice p14 rs1.length q14, .slice p15 b1.length q15, .slice p16 e1.length q16, .int .u8 h1.kd, .int .i64 h1.ar, .int .i64 h1.rf]
            change wpAnyH _ _ _ _ _ _ _ _ (W2.drew.setCells (wr.heap.size + 1) 0 [.int .i64 h1.op, .int .i64 h1.pl, .string h1.nm, .int .i64 h1.nu, .slice p10 es1.length q10, .slice p11 ns1.length q11, .slice p12 os1.length q12, .slice p13 on1.length q13, .slice p14 rs1.length q14, .slice p15 b1.length q15, .slice p16 e1.length q16, .int .u8 h1.kd, .int .i64 h1.ar, .int .i64 h1.rf])
            generalize W2.drew.setCells (wr.heap.size + 1) 0 [.int .i64 h1.op, .int .i64 h1.pl, .string h1.nm, .int .i64 h1.nu, .slice p10 es1.length q10, .slice p11 ns1.length q11, .slice p12 os1.length q12, .slice p13 on1.length q13, .slice p14 rs1.length q14, .slice p15 b1.length q15, .slice p16 e1.length q16, .int .u8 h1.kd, .int .i64 h1.ar, .int .i64 h1.rf] = W3 at R1 T4 B4 hHeld ⊢
            rw [put_none (by rfl)]
            refine wpAnyH_ready (rs := [11]) (by kernel_rfl) (by simp) ?_
            refine AllReadyH.cons (o := _) rfl (fun K hK => ?_) AllReadyH.nil
            rw [if_pos (by rfl)]
            refine wp_store_mid 65 _ _ rfl (wr.heap.size) 0 ([.int .i64 h2.op, .int .i64 h2.pl, .string h2.nm, .int .i64 h2.nu, .slice p20 es2.length q20, .slice p21 ns2.length q21, .slice p22 os2.length q22, .slice p23 on2.length q23, .slice p24 rs2.length q24, .slice p25 b2.length q25, .slice p26 e2.length q26, .int .u8 h2.kd, .int .i64 h2.ar, .int .i64 h2.rf] : List Value).toArray rfl rfl ?_ (by kernel_rfl) (all_oneCell_toArray (by intro v hv; simp at hv; rcases hv with rfl | rfl | rfl | rfl | rfl | rfl | rfl | rfl | rfl | rfl | rfl | rfl | rfl | rfl <;> rfl)) ?_
            · exact T4
            have R2 := World.rangeAt_setCells_same W3 (wr.heap.size) 0 [.int .i64 h2.op, .int .i64 h2.pl, .string h2.nm, .int .i64 h2.nu, .slice p20 es2.length q20, .slice p21 ns2.length q21, .slice p22 os2.length q22, .slice p23 on2.length q23, .slice p24 rs2.length q24, .slice p25 b2.length q25, .slice p26 e2.length q26, .int .u8 h2.kd, .int .i64 h2.ar, .int .i64 h2.rf] T4
            have R3 := World.rangeAt_setCells_apart R1 (wr.heap.size) 0 [.int .i64 h2.op, .int .i64 h2.pl, .string h2.nm, .int .i64 h2.nu, .slice p20 es2.length q20, .slice p21 ns2.length q21, .slice p22 os2.length q22, .slice p23 on2.length q23, .slice p24 rs2.length q24, .slice p25 b2.length q25, .slice p26 e2.length q26, .int .u8 h2.kd, .int .i64 h2.ar, .int .i64 h2.rf] (.inl (by omega))
            have B5 := bl_set B4 (show wr.heap.size ≤ wr.heap.size by omega) 0 [.int .i64 h2.op, .int .i64 h2.pl, .string h2.nm, .int .i64 h2.nu, .slice p20 es2.length q20, .slice p21 ns2.length q21, .slice p22 os2.length q22, .slice p23 on2.length q23, .slice p24 rs2.length q24, .slice p25 b2.length q25, .slice p26 e2.length q26, .int .u8 h2.kd, .int .i64 h2.ar, .int .i64 h2.rf]
            refine hK.out _ _ B5 (fun hHeld => ?_)
            clear hK K
            refine wpAnyH_done (by kernel_rfl) ?_ _
            rw [put_none (by rfl)]
            refine Met.intro ?_
            go_step
            go_meet
            case rel =>
              exact ⟨wr.heap.size + 1, wr.heap.size, rfl, rfl, bx_range R3, bx_range R2, by omega, by omega, B5⟩
        case rest =>
          obtain ⟨hx, hy, rfl, rfl, bx, bz, lx, ly, hb⟩ := hcut
          clear x0 x1 x2 x3 x4 x5 x6 x7 x8 x9 x10 x11 x12 x13 y0 y1 y2 y3 y4 y5 y6 y7 y8 y9 y10 y11 y12 y13 za zb
          have LD : SdL d := HL.out (by intro q; have := LT.out; rw [q] at this; exact absurd this (Nat.not_lt_zero _))
          have FR : Hid (∀ W, Below wr.heap.size wr W → FrS (fun b => b < w.heap.size) wr W) := fun W hb q hq => hb.cell (Nat.lt_of_lt_of_le hq HW.out.size)
          obtain ⟨u11, ⟨u12, g12⟩, u13, ⟨u14, g14⟩, ⟨u15, g15⟩, u16, u17⟩ := SvF.parts V1.out
          obtain ⟨u21, ⟨u22, g22⟩, u23, ⟨u24, g24⟩, ⟨u25, g25⟩, u26, u27⟩ := SvF.parts V2.out
          have Q0 : Hid (∀ W, Below wr.heap.size wr W → Calls Try.prog 32 #[.slice p10 es1.length q10, .slice p20 es2.length q20] W fun e w' => e = .returned (.bool (smL (smE d) es1 es2)) ∧ Below W.heap.size W w') := fun W hb => rmL_of d W _ _ es1 es2 _ _ (u11.fr (FR.out W hb)).at (u21.fr (FR.out W hb)).at
          have Q1 : Hid (∀ W, Below wr.heap.size wr W → Calls Try.prog 33 #[.slice p11 ns1.length q11, .slice p21 ns2.length q21] W fun e w' => e = .returned (.bool (decide (ns1 = ns2))) ∧ Below W.heap.size W w') := fun W hb => textsR _ _ ns1 ns2 _ _ W (u12.fr (FR.out W hb)).1 (u22.fr (FR.out W hb)).1 (Nat.lt_trans g12 (by decide))
          have Q2 : Hid (∀ W, Below wr.heap.size wr W → Calls Try.prog 32 #[.slice p12 os1.length q12, .slice p22 os2.length q22] W fun e w' => e = .returned (.bool (smL (smE d) os1 os2)) ∧ Below W.heap.size W w') := fun W hb => rmL_of d W _ _ os1 os2 _ _ (u13.fr (FR.out W hb)).at (u23.fr (FR.out W hb)).at
          have Q3 : Hid (∀ W, Below wr.heap.size wr W → Calls Try.prog 33 #[.slice p13 on1.length q13, .slice p23 on2.length q23] W fun e w' => e = .returned (.bool (decide (on1 = on2))) ∧ Below W.heap.size W w') := fun W hb => textsR _ _ on1 on2 _ _ W (u14.fr (FR.out W hb)).1 (u24.fr (FR.out W hb)).1 (Nat.lt_trans g14 (by decide))
          have Q4 : Hid (∀ W, Below wr.heap.size wr W → Calls Try.prog 34 #[.slice p14 rs1.length q14, .slice p24 rs2.length q24] W fun e w' => e = .returned (.bool (decide (rs1 = rs2))) ∧ Below W.heap.size W w') := fun W hb => rangesR _ _ rs1 rs2 _ _ W (u15.fr (FR.out W hb)).1 (u25.fr (FR.out W hb)).1 (Nat.lt_trans g15 (by decide))
          have Q5 : Hid (∀ W, Below wr.heap.size wr W → Calls Try.prog 20 #[.slice p15 b1.length q15, .slice p25 b2.length q25] W fun e w' => e = .returned (.bool (smL (smS d) b1 b2)) ∧ Below W.heap.size W w') := fun W hb => LD W _ _ b1 b2 _ _ ((u16.fr (FR.out W hb)).sub fun b q => Nat.lt_of_lt_of_le q (Nat.le_trans HW.out.size hb.size)) ((u26.fr (FR.out W hb)).sub fun b q => Nat.lt_of_lt_of_le q (Nat.le_trans HW.out.size hb.size))
          have Q6 : Hid (∀ W, Below wr.heap.size wr W → Calls Try.prog 20 #[.slice p16 e1.length q16, .slice p26 e2.length q26] W fun e w' => e = .returned (.bool (smL (smS d) e1 e2)) ∧ Below W.heap.size W w') := fun W hb => LD W _ _ e1 e2 _ _ ((u17.fr (FR.out W hb)).sub fun b q => Nat.lt_of_lt_of_le q (Nat.le_trans HW.out.size hb.size)) ((u27.fr (FR.out W hb)).sub fun b q => Nat.lt_of_lt_of_le q (Nat.le_trans HW.out.size hb.size))
          have FE : Hid (smS (d + 1) (St.mk h1 es1 ns1 os1 on1 rs1 b1 e1) (St.mk h2 es2 ns2 os2 on2 rs2 b2 e2) = (hdT h1 h2 && ((decide (ns1 = ns2)) && (decide (on1 = on2)) && (decide (rs1 = rs2)) && (smL (smE d) es1 es2) && (smL (smE d) os1 os2) && (smL (smS d) b1 b2) && (smL (smS d) e1 e2)))) := rfl
          generalize smL (smE d) es1 es2 = r0 at Q0 FE
          generalize decide (ns1 = ns2) = r1 at Q1 FE
          generalize smL (smE d) os1 os2 = r2 at Q2 FE
          generalize decide (on1 = on2) = r3 at Q3 FE
          generalize decide (rs1 = rs2) = r4 at Q4 FE
          generalize smL (smS d) b1 b2 = r5 at Q5 FE
          generalize smL (smS d) e1 e2 = r6 at Q6 FE
          have BC : Hid (Below wr.heap.size wr wc) := hb
          have X0 : Hid (BxS wc hx h1 (.slice p10 es1.length q10) (.slice p11 ns1.length q11) (.slice p12 os1.length q12) (.slice p13 on1.length q13) (.slice p14 rs1.length q14) (.slice p15 b1.length q15) (.slice p16 e1.length q16)) := bx
          have Y0 : Hid (BxS wc hy h2 (.slice p20 es2.length q20) (.slice p21 ns2.length q21) (.slice p22 os2.length q22) (.slice p23 on2.length q23) (.slice p24 rs2.length q24) (.slice p25 b2.length q25) (.slice p26 e2.length q26)) := bz
          have zz : hx < wc.heap.size ∧ hy < wc.heap.size := ⟨block_lt_of_cell bx.c0, block_lt_of_cell bz.c0⟩
          obtain ⟨a0, a1, a2, a3, a4, a5, a6, a7, a8, a9, a10, a11, a12, a13⟩ := bx
          obtain ⟨d0, d1, d2, d3, d4, d5, d6, d7, d8, d9, d10, d11, d12, d13⟩ := bz
          clear hb u11 u12 g12 u13 u14 g14 u15 g15 u16 u17 u21 u22 g22 u23 u24 g24 u25 g25 u26 u27 LD FR V1 V2
          go_upto_region 7 with fail
          go_cut [65] (fun s65 wx => s65 = .bool (!(hdT h1 h2 && r0 && r1)) ∧ BxS wx hx h1 (.slice p10 es1.length q10) (.slice p11 ns1.length q11) (.slice p12 os1.length q12) (.slice p13 on1.length q13) (.slice p14 rs1.length q14) (.slice p15 b1.length q15) (.slice p16 e1.length q16) ∧ BxS wx hy h2 (.slice p20 es2.length q20) (.slice p21 ns2.length q21) (.slice p22 os2.length q22) (.slice p23 on2.length q23) (.slice p24 rs2.length q24) (.slice p25 b2.length q25) (.slice p26 e2.length q26) ∧ Below wr.heap.size wr wx)
          case first =>
            clear Q2 Q3 Q4 Q5 Q6 FE E1 E2 AL
            cases f1 : (h1.op == h2.op)
            · have f1' : (h1.op != h2.op) = true := by simp [bne, f1]
              go_wp2_with fail
              go_meet
              case rel => exact ⟨by simp [hdT, *], X0.out, Y0.out, BC.out⟩
            · have f1' : (h1.op != h2.op) = false := by simp [bne, f1]
              cases f2 : (h1.nm.toList == h2.nm.toList)
              · have f2' : (h1.nm.toList != h2.nm.toList) = true := by simp [bne, f2]
                go_wp2_with fail
                go_meet
                case rel => exact ⟨by simp [hdT, *], X0.out, Y0.out, BC.out⟩
              · have f2' : (h1.nm.toList != h2.nm.toList) = false := by simp [bne, f2]
                cases f4 : (h1.op == 5)
                · have f4' : (h1.op != 5) = true := by simp [bne, f4]
                  cases f3 : (h1.nu == h2.nu)
                  · have f3' : (h1.nu != h2.nu) = true := by simp [bne, f3]
                    go_wp2_with fail
                    go_meet
                    case rel => exact ⟨by simp [hdT, *], X0.out, Y0.out, BC.out⟩
                  · have f3' : (h1.nu != h2.nu) = false := by simp [bne, f3]
                    cases r0
                    · skip
                      go_wp2_with (first | (go_at_call 32; refine (Q0.out _ BC.out).mono ?_; rintro e w0 ⟨rfl, hb⟩; have B0 : Hid (Below wr.heap.size wr w0) := BC.out.trans (hb.mono BC.out.size); have X0 : Hid (BxS w0 hx h1 (.slice p10 es1.length q10) (.slice p11 ns1.length q11) (.slice p12 os1.length q12) (.slice p13 on1.length q13) (.slice p14 rs1.length q14) (.slice p15 b1.length q15) (.slice p16 e1.length q16)) := X0.out.below hb zz.1; have Y0 : Hid (BxS w0 hy h2 (.slice p20 es2.length q20) (.slice p21 ns2.length q21) (.slice p22 os2.length q22) (.slice p23 on2.length q23) (.slice p24 rs2.length q24) (.slice p25 b2.length q25) (.slice p26 e2.length q26)) := Y0.out.below hb zz.2; have zz0 : hx < w0.heap.size ∧ hy < w0.heap.size := ⟨Nat.lt_of_lt_of_le zz.1 hb.size, Nat.lt_of_lt_of_le zz.2 hb.size⟩; have k0 := X0.out.c5; have j0 := Y0.out.c5; clear hb))
                      go_meet
                      case rel => exact ⟨by simp [hdT, *], X0.out, Y0.out, B0.out⟩
                    · cases r1
                      · skip
                        go_wp2_with (first | (go_at_call 33; refine (Q1.out _ B0.out).mono ?_; rintro e w1 ⟨rfl, hb⟩; have B1 : Hid (Below wr.heap.size wr w1) := B0.out.trans (hb.mono B0.out.size); have X1 : Hid (BxS w1 hx h1 (.slice p10 es1.length q10) (.slice p11 ns1.length q11) (.slice p12 os1.length q12) (.slice p13 on1.length q13) (.slice p14 rs1.length q14) (.slice p15 b1.length q15) (.slice p16 e1.length q16)) := X0.out.below hb zz0.1; have Y1 : Hid (BxS w1 hy h2 (.slice p20 es2.length q20) (.slice p21 ns2.length q21) (.slice p22 os2.length q22) (.slice p23 on2.length q23) (.slice p24 rs2.length q24) (.slice p25 b2.length q25) (.slice p26 e2.length q26)) := Y0.out.below hb zz0.2; have zz1 : hx < w1.heap.size ∧ hy < w1.heap.size := ⟨Nat.lt_of_lt_of_le zz0.1 hb.size, Nat.lt_of_lt_of_le zz0.2 hb.size⟩; have k1 := X1.out.c6; have j1 := Y1.out.c6; clear hb) | (go_at_call 32; refine (Q0.out _ BC.out).mono ?_; rintro e w0 ⟨rfl, hb⟩; have B0 : Hid (Below wr.heap.size wr w0) := BC.out.trans (hb.mono BC.out.size); have X0 : Hid (BxS w0 hx h1 (.slice p10 es1.length q10) (.slice p11 ns1.length q11) (.slice p12 os1.length q12) (.slice p13 on1.length q13) (.slice p14 rs1.length q14) (.slice p15 b1.length q15) (.slice p16 e1.length q16)) := X0.out.below hb zz.1; have Y0 : Hid (BxS w0 hy h2 (.slice p20 es2.length q20) (.slice p21 ns2.length q21) (.slice p22 os2.length q22) (.slice p23 on2.length q23) (.slice p24 rs2.length q24) (.slice p25 b2.length q25) (.slice p26 e2.length q26)) := Y0.out.below hb zz.2; have zz0 : hx < w0.heap.size ∧ hy < w0.heap.size := ⟨Nat.lt_of_lt_of_le zz.1 hb.size, Nat.lt_of_lt_of_le zz.2 hb.size⟩; have k0 := X0.out.c5; have j0 := Y0.out.c5; clear hb))
                        go_meet
                        case rel => exact ⟨by simp [hdT, *], X1.out, Y1.out, B1.out⟩
                      · skip
                        go_wp2_with (first | (go_at_call 33; refine (Q1.out _ B0.out).mono ?_; rintro e w1 ⟨rfl, hb⟩; have B1 : Hid (Below wr.heap.size wr w1) := B0.out.trans (hb.mono B0.out.size); have X1 : Hid (BxS w1 hx h1 (.slice p10 es1.length q10) (.slice p11 ns1.length q11) (.slice p12 os1.length q12) (.slice p13 on1.length q13) (.slice p14 rs1.length q14) (.slice p15 b1.length q15) (.slice p16 e1.length q16)) := X0.out.below hb zz0.1; have Y1 : Hid (BxS w1 hy h2 (.slice p20 es2.length q20) (.slice p21 ns2.length q21) (.slice p22 os2.length q22) (.slice p23 on2.length q23) (.slice p24 rs2.length q24) (.slice p25 b2.length q25) (.slice p26 e2.length q26)) := Y0.out.below hb zz0.2; have zz1 : hx < w1.heap.size ∧ hy < w1.heap.size := ⟨Nat.lt_of_lt_of_le zz0.1 hb.size, Nat.lt_of_lt_of_le zz0.2 hb.size⟩; have k1 := X1.out.c6; have j1 := Y1.out.c6; clear hb) | (go_at_call 32; refine (Q0.out _ BC.out).mono ?_; rintro e w0 ⟨rfl, hb⟩; have B0 : Hid (Below wr.heap.size wr w0) := BC.out.trans (hb.mono BC.out.size); have X0 : Hid (BxS w0 hx h1 (.slice p10 es1.length q10) (.slice p11 ns1.length q11) (.slice p12 os1.length q12) (.slice p13 on1.length q13) (.slice p14 rs1.length q14) (.slice p15 b1.length q15) (.slice p16 e1.length q16)) := X0.out.below hb zz.1; have Y0 : Hid (BxS w0 hy h2 (.slice p20 es2.length q20) (.slice p21 ns2.length q21) (.slice p22 os2.length q22) (.slice p23 on2.length q23) (.slice p24 rs2.length q24) (.slice p25 b2.length q25) (.slice p26 e2.length q26)) := Y0.out.below hb zz.2; have zz0 : hx < w0.heap.size ∧ hy < w0.heap.size := ⟨Nat.lt_of_lt_of_le zz.1 hb.size, Nat.lt_of_lt_of_le zz.2 hb.size⟩; have k0 := X0.out.c5; have j0 := Y0.out.c5; clear hb))
                        go_meet
                        case rel => exact ⟨by simp [hdT, *], X1.out, Y1.out, B1.out⟩
                · have f4' : (h1.op != 5) = false := by simp [bne, f4]
                  cases r0
                  · skip
                    go_wp2_with (first | (go_at_call 32; refine (Q0.out _ BC.out).mono ?_; rintro e w0 ⟨rfl, hb⟩; have B0 : Hid (Below wr.heap.size wr w0) := BC.out.trans (hb.mono BC.out.size); have X0 : Hid (BxS w0 hx h1 (.slice p10 es1.length q10) (.slice p11 ns1.length q11) (.slice p12 os1.length q12) (.slice p13 on1.length q13) (.slice p14 rs1.length q14) (.slice p15 b1.length q15) (.slice p16 e1.length q16)) := X0.out.below hb zz.1; have Y0 : Hid (BxS w0 hy h2 (.slice p20 es2.length q20) (.slice p21 ns2.length q21) (.slice p22 os2.length q22) (.slice p23 on2.length q23) (.slice p24 rs2.length q24) (.slice p25 b2.length q25) (.slice p26 e2.length q26)) := Y0.out.below hb zz.2; have zz0 : hx < w0.heap.size ∧ hy < w0.heap.size := ⟨Nat.lt_of_lt_of_le zz.1 hb.size, Nat.lt_of_lt_of_le zz.2 hb.size⟩; have k0 := X0.out.c5; have j0 := Y0.out.c5; clear hb))
                    go_meet
                    case rel => exact ⟨by simp [hdT, *], X0.out, Y0.out, B0.out⟩
                  · cases r1
                    · skip
                      go_wp2_with (first | (go_at_call 33; refine (Q1.out _ B0.out).mono ?_; rintro e w1 ⟨rfl, hb⟩; have B1 : Hid (Below wr.heap.size wr w1) := B0.out.trans (hb.mono B0.out.size); have X1 : Hid (BxS w1 hx h1 (.slice p10 es1.length q10) (.slice p11 ns1.length q11) (.slice p12 os1.length q12) (.slice p13 on1.length q13) (.slice p14 rs1.length q14) (.slice p15 b1.length q15) (.slice p16 e1.length q16)) := X0.out.below hb zz0.1; have Y1 : Hid (BxS w1 hy h2 (.slice p20 es2.length q20) (.slice p21 ns2.length q21) (.slice p22 os2.length q22) (.slice p23 on2.length q23) (.slice p24 rs2.length q24) (.slice p25 b2.length q25) (.slice p26 e2.length q26)) := Y0.out.below hb zz0.2; have zz1 : hx < w1.heap.size ∧ hy < w1.heap.size := ⟨Nat.lt_of_lt_of_le zz0.1 hb.size, Nat.lt_of_lt_of_le zz0.2 hb.size⟩; have k1 := X1.out.c6; have j1 := Y1.out.c6; clear hb) | (go_at_call 32; refine (Q0.out _ BC.out).mono ?_; rintro e w0 ⟨rfl, hb⟩; have B0 : Hid (Below wr.heap.size wr w0) := BC.out.trans (hb.mono BC.out.size); have X0 : Hid (BxS w0 hx h1 (.slice p10 es1.length q10) (.slice p11 ns1.length q11) (.slice p12 os1.length q12) (.slice p13 on1.length q13) (.slice p14 rs1.length q14) (.slice p15 b1.length q15) (.slice p16 e1.length q16)) := X0.out.below hb zz.1; have Y0 : Hid (BxS w0 hy h2 (.slice p20 es2.length q20) (.slice p21 ns2.length q21) (.slice p22 os2.length q22) (.slice p23 on2.length q23) (.slice p24 rs2.length q24) (.slice p25 b2.length q25) (.slice p26 e2.length q26)) := Y0.out.below hb zz.2; have zz0 : hx < w0.heap.size ∧ hy < w0.heap.size := ⟨Nat.lt_of_lt_of_le zz.1 hb.size, Nat.lt_of_lt_of_le zz.2 hb.size⟩; have k0 := X0.out.c5; have j0 := Y0.out.c5; clear hb))
                      go_meet
                      case rel => exact ⟨by simp [hdT, *], X1.out, Y1.out, B1.out⟩
                    · skip
                      go_wp2_with (first | (go_at_call 33; refine (Q1.out _ B0.out).mono ?_; rintro e w1 ⟨rfl, hb⟩; have B1 : Hid (Below wr.heap.size wr w1) := B0.out.trans (hb.mono B0.out.size); have X1 : Hid (BxS w1 hx h1 (.slice p10 es1.length q10) (.slice p11 ns1.length q11) (.slice p12 os1.length q12) (.slice p13 on1.length q13) (.slice p14 rs1.length q14) (.slice p15 b1.length q15) (.slice p16 e1.length q16)) := X0.out.below hb zz0.1; have Y1 : Hid (BxS w1 hy h2 (.slice p20 es2.length q20) (.slice p21 ns2.length q21) (.slice p22 os2.length q22) (.slice p23 on2.length q23) (.slice p24 rs2.length q24) (.slice p25 b2.length q25) (.slice p26 e2.length q26)) := Y0.out.below hb zz0.2; have zz1 : hx < w1.heap.size ∧ hy < w1.heap.size := ⟨Nat.lt_of_lt_of_le zz0.1 hb.size, Nat.lt_of_lt_of_le zz0.2 hb.size⟩; have k1 := X1.out.c6; have j1 := Y1.out.c6; clear hb) | (go_at_call 32; refine (Q0.out _ BC.out).mono ?_; rintro e w0 ⟨rfl, hb⟩; have B0 : Hid (Below wr.heap.size wr w0) := BC.out.trans (hb.mono BC.out.size); have X0 : Hid (BxS w0 hx h1 (.slice p10 es1.length q10) (.slice p11 ns1.length q11) (.slice p12 os1.length q12) (.slice p13 on1.length q13) (.slice p14 rs1.length q14) (.slice p15 b1.length q15) (.slice p16 e1.length q16)) := X0.out.below hb zz.1; have Y0 : Hid (BxS w0 hy h2 (.slice p20 es2.length q20) (.slice p21 ns2.length q21) (.slice p22 os2.length q22) (.slice p23 on2.length q23) (.slice p24 rs2.length q24) (.slice p25 b2.length q25) (.slice p26 e2.length q26)) := Y0.out.below hb zz.2; have zz0 : hx < w0.heap.size ∧ hy < w0.heap.size := ⟨Nat.lt_of_lt_of_le zz.1 hb.size, Nat.lt_of_lt_of_le zz.2 hb.size⟩; have k0 := X0.out.c5; have j0 := Y0.out.c5; clear hb))
                      go_meet
                      case rel => exact ⟨by simp [hdT, *], X1.out, Y1.out, B1.out⟩
          case rest =>
            obtain ⟨rfl, bx, bz, hb⟩ := hcut
            clear Q0 Q1
            clear X0 Y0 zz BC a0 a1 a2 a3 a4 a5 a6 a7 a8 a9 a10 a11 a12 a13 d0 d1 d2 d3 d4 d5 d6 d7 d8 d9 d10 d11 d12 d13
            have BC : Hid (Below wr.heap.size wr wc) := hb
            have X0 : Hid (BxS wc hx h1 (.slice p10 es1.length q10) (.slice p11 ns1.length q11) (.slice p12 os1.length q12) (.slice p13 on1.length q13) (.slice p14 rs1.length q14) (.slice p15 b1.length q15) (.slice p16 e1.length q16)) := bx
            have Y0 : Hid (BxS wc hy h2 (.slice p20 es2.length q20) (.slice p21 ns2.length q21) (.slice p22 os2.length q22) (.slice p23 on2.length q23) (.slice p24 rs2.length q24) (.slice p25 b2.length q25) (.slice p26 e2.length q26)) := bz
            have zz : hx < wc.heap.size ∧ hy < wc.heap.size := ⟨block_lt_of_cell bx.c0, block_lt_of_cell bz.c0⟩
            obtain ⟨a0, a1, a2, a3, a4, a5, a6, a7, a8, a9, a10, a11, a12, a13⟩ := bx
            obtain ⟨d0, d1, d2, d3, d4, d5, d6, d7, d8, d9, d10, d11, d12, d13⟩ := bz
            clear hb
            cases pass : (hdT h1 h2 && r0 && r1)
            · clear Q2 Q3 Q4 Q5 Q6
              have ed := smL_bad (smS (d + 1)) l l' k _ _ E1.out E2.out (by rw [FE.out]; exact fe_bad1 _ _ _ _ _ _ _ _ pass)
              clear FE pass
              go_wp2
              go_ret
              exact ⟨by first | rfl | (rw [ed]; rfl), HW.out.trans (BC.out.mono HW.out.size)⟩
            · go_upto_region 9 with fail
              go_cut [103] (fun s103 wx => s103 = .bool (!(r2 && r3 && r4 && r5 && r6)) ∧ BxS wx hx h1 (.slice p10 es1.length q10) (.slice p11 ns1.length q11) (.slice p12 os1.length q12) (.slice p13 on1.length q13) (.slice p14 rs1.length q14) (.slice p15 b1.length q15) (.slice p16 e1.length q16) ∧ BxS wx hy h2 (.slice p20 es2.length q20) (.slice p21 ns2.length q21) (.slice p22 os2.length q22) (.slice p23 on2.length q23) (.slice p24 rs2.length q24) (.slice p25 b2.length q25) (.slice p26 e2.length q26) ∧ Below wr.heap.size wr wx)
              case first =>
                clear FE E1 E2 AL pass
                cases r2
                · skip
                  go_wp2_with (first | (go_at_call 32; refine (Q2.out _ BC.out).mono ?_; rintro e w2 ⟨rfl, hb⟩; have B2 : Hid (Below wr.heap.size wr w2) := BC.out.trans (hb.mono BC.out.size); have X2 : Hid (BxS w2 hx h1 (.slice p10 es1.length q10) (.slice p11 ns1.length q11) (.slice p12 os1.length q12) (.slice p13 on1.length q13) (.slice p14 rs1.length q14) (.slice p15 b1.length q15) (.slice p16 e1.length q16)) := X0.out.below hb zz.1; have Y2 : Hid (BxS w2 hy h2 (.slice p20 es2.length q20) (.slice p21 ns2.length q21) (.slice p22 os2.length q22) (.slice p23 on2.length q23) (.slice p24 rs2.length q24) (.slice p25 b2.length q25) (.slice p26 e2.length q26)) := Y0.out.below hb zz.2; have zz2 : hx < w2.heap.size ∧ hy < w2.heap.size := ⟨Nat.lt_of_lt_of_le zz.1 hb.size, Nat.lt_of_lt_of_le zz.2 hb.size⟩; have k2 := X2.out.c7; have j2 := Y2.out.c7; clear hb))
                  go_meet
                  case rel => exact ⟨by simp, X2.out, Y2.out, B2.out⟩
                · skip
                  cases r3
                  · skip
                    go_wp2_with (first | (go_at_call 33; refine (Q3.out _ B2.out).mono ?_; rintro e w3 ⟨rfl, hb⟩; have B3 : Hid (Below wr.heap.size wr w3) := B2.out.trans (hb.mono B2.out.size); have X3 : Hid (BxS w3 hx h1 (.slice p10 es1.length q10) (.slice p11 ns1.length q11) (.slice p12 os1.length q12) (.slice p13 on1.length q13) (.slice p14 rs1.length q14) (.slice p15 b1.length q15) (.slice p16 e1.length q16)) := X2.out.below hb zz2.1; have Y3 : Hid (BxS w3 hy h2 (.slice p20 es2.length q20) (.slice p21 ns2.length q21) (.slice p22 os2.length q22) (.slice p23 on2.length q23) (.slice p24 rs2.length q24) (.slice p25 b2.length q25) (.slice p26 e2.length q26)) := Y2.out.below hb zz2.2; have zz3 : hx < w3.heap.size ∧ hy < w3.heap.size := ⟨Nat.lt_of_lt_of_le zz2.1 hb.size, Nat.lt_of_lt_of_le zz2.2 hb.size⟩; have k3 := X3.out.c8; have j3 := Y3.out.c8; clear hb) | (go_at_call 32; refine (Q2.out _ BC.out).mono ?_; rintro e w2 ⟨rfl, hb⟩; have B2 : Hid (Below wr.heap.size wr w2) := BC.out.trans (hb.mono BC.out.size); have X2 : Hid (BxS w2 hx h1 (.slice p10 es1.length q10) (.slice p11 ns1.length q11) (.slice p12 os1.length q12) (.slice p13 on1.length q13) (.slice p14 rs1.length q14) (.slice p15 b1.length q15) (.slice p16 e1.length q16)) := X0.out.below hb zz.1; have Y2 : Hid (BxS w2 hy h2 (.slice p20 es2.length q20) (.slice p21 ns2.length q21) (.slice p22 os2.length q22) (.slice p23 on2.length q23) (.slice p24 rs2.length q24) (.slice p25 b2.length q25) (.slice p26 e2.length q26)) := Y0.out.below hb zz.2; have zz2 : hx < w2.heap.size ∧ hy < w2.heap.size := ⟨Nat.lt_of_lt_of_le zz.1 hb.size, Nat.lt_of_lt_of_le zz.2 hb.size⟩; have k2 := X2.out.c7; have j2 := Y2.out.c7; clear hb))
                    go_meet
                    case rel => exact ⟨by simp, X3.out, Y3.out, B3.out⟩
                  · skip
                    cases r4
                    · skip
                      go_wp2_with (first | (go_at_call 34; refine (Q4.out _ B3.out).mono ?_; rintro e w4 ⟨rfl, hb⟩; have B4 : Hid (Below wr.heap.size wr w4) := B3.out.trans (hb.mono B3.out.size); have X4 : Hid (BxS w4 hx h1 (.slice p10 es1.length q10) (.slice p11 ns1.length q11) (.slice p12 os1.length q12) (.slice p13 on1.length q13) (.slice p14 rs1.length q14) (.slice p15 b1.length q15) (.slice p16 e1.length q16)) := X3.out.below hb zz3.1; have Y4 : Hid (BxS w4 hy h2 (.slice p20 es2.length q20) (.slice p21 ns2.length q21) (.slice p22 os2.length q22) (.slice p23 on2.length q23) (.slice p24 rs2.length q24) (.slice p25 b2.length q25) (.slice p26 e2.length q26)) := Y3.out.below hb zz3.2; have zz4 : hx < w4.heap.size ∧ hy < w4.heap.size := ⟨Nat.lt_of_lt_of_le zz3.1 hb.size, Nat.lt_of_lt_of_le zz3.2 hb.size⟩; have k4 := X4.out.c9; have j4 := Y4.out.c9; clear hb) | (go_at_call 33; refine (Q3.out _ B2.out).mono ?_; rintro e w3 ⟨rfl, hb⟩; have B3 : Hid (Below wr.heap.size wr w3) := B2.out.trans (hb.mono B2.out.size); have X3 : Hid (BxS w3 hx h1 (.slice p10 es1.length q10) (.slice p11 ns1.length q11) (.slice p12 os1.length q12) (.slice p13 on1.length q13) (.slice p14 rs1.length q14) (.slice p15 b1.length q15) (.slice p16 e1.length q16)) := X2.out.below hb zz2.1; have Y3 : Hid (BxS w3 hy h2 (.slice p20 es2.length q20) (.slice p21 ns2.length q21) (.slice p22 os2.length q22) (.slice p23 on2.length q23) (.slice p24 rs2.length q24) (.slice p25 b2.length q25) (.slice p26 e2.length q26)) := Y2.out.below hb zz2.2; have zz3 : hx < w3.heap.size ∧ hy < w3.heap.size := ⟨Nat.lt_of_lt_of_le zz2.1 hb.size, Nat.lt_of_lt_of_le zz2.2 hb.size⟩; have k3 := X3.out.c8; have j3 := Y3.out.c8; clear hb) | (go_at_call 32; refine (Q2.out _ BC.out).mono ?_; rintro e w2 ⟨rfl, hb⟩; have B2 : Hid (Below wr.heap.size wr w2) := BC.out.trans (hb.mono BC.out.size); have X2 : Hid (BxS w2 hx h1 (.slice p10 es1.length q10) (.slice p11 ns1.length q11) (.slice p12 os1.length q12) (.slice p13 on1.length q13) (.slice p14 rs1.length q14) (.slice p15 b1.length q15) (.slice p16 e1.length q16)) := X0.out.below hb zz.1; have Y2 : Hid (BxS w2 hy h2 (.slice p20 es2.length q20) (.slice p21 ns2.length q21) (.slice p22 os2.length q22) (.slice p23 on2.length q23) (.slice p24 rs2.length q24) (.slice p25 b2.length q25) (.slice p26 e2.length q26)) := Y0.out.below hb zz.2; have zz2 : hx < w2.heap.size ∧ hy < w2.heap.size := ⟨Nat.lt_of_lt_of_le zz.1 hb.size, Nat.lt_of_lt_of_le zz.2 hb.size⟩; have k2 := X2.out.c7; have j2 := Y2.out.c7; clear hb))
                      go_meet
                      case rel => exact ⟨by simp, X4.out, Y4.out, B4.out⟩
                    · skip
                      cases r5
                      · skip
                        go_wp2_with (first | (go_at_call 20; refine (Q5.out _ B4.out).mono ?_; rintro e w5 ⟨rfl, hb⟩; have B5 : Hid (Below wr.heap.size wr w5) := B4.out.trans (hb.mono B4.out.size); have X5 : Hid (BxS w5 hx h1 (.slice p10 es1.length q10) (.slice p11 ns1.length q11) (.slice p12 os1.length q12) (.slice p13 on1.length q13) (.slice p14 rs1.length q14) (.slice p15 b1.length q15) (.slice p16 e1.length q16)) := X4.out.below hb zz4.1; have Y5 : Hid (BxS w5 hy h2 (.slice p20 es2.length q20) (.slice p21 ns2.length q21) (.slice p22 os2.length q22) (.slice p23 on2.length q23) (.slice p24 rs2.length q24) (.slice p25 b2.length q25) (.slice p26 e2.length q26)) := Y4.out.below hb zz4.2; have zz5 : hx < w5.heap.size ∧ hy < w5.heap.size := ⟨Nat.lt_of_lt_of_le zz4.1 hb.size, Nat.lt_of_lt_of_le zz4.2 hb.size⟩; have k5 := X5.out.c10; have j5 := Y5.out.c10; clear hb) | (go_at_call 34; refine (Q4.out _ B3.out).mono ?_; rintro e w4 ⟨rfl, hb⟩; have B4 : Hid (Below wr.heap.size wr w4) := B3.out.trans (hb.mono B3.out.size); have X4 : Hid (BxS w4 hx h1 (.slice p10 es1.length q10) (.slice p11 ns1.length q11) (.slice p12 os1.length q12) (.slice p13 on1.length q13) (.slice p14 rs1.length q14) (.slice p15 b1.length q15) (.slice p16 e1.length q16)) := X3.out.below hb zz3.1; have Y4 : Hid (BxS w4 hy h2 (.slice p20 es2.length q20) (.slice p21 ns2.length q21) (.slice p22 os2.length q22) (.slice p23 on2.length q23) (.slice p24 rs2.length q24) (.slice p25 b2.length q25) (.slice p26 e2.length q26)) := Y3.out.below hb zz3.2; have zz4 : hx < w4.heap.size ∧ hy < w4.heap.size := ⟨Nat.lt_of_lt_of_le zz3.1 hb.size, Nat.lt_of_lt_of_le zz3.2 hb.size⟩; have k4 := X4.out.c9; have j4 := Y4.out.c9; clear hb) | (go_at_call 33; refine (Q3.out _ B2.out).mono ?_; rintro e w3 ⟨rfl, hb⟩; have B3 : Hid (Below wr.heap.size wr w3) := B2.out.trans (hb.mono B2.out.size); have X3 : Hid (BxS w3 hx h1 (.slice p10 es1.length q10) (.slice p11 ns1.length q11) (.slice p12 os1.length q12) (.slice p13 on1.length q13) (.slice p14 rs1.length q14) (.slice p15 b1.length q15) (.slice p16 e1.length q16)) := X2.out.below hb zz2.1; have Y3 : Hid (BxS w3 hy h2 (.slice p20 es2.length q20) (.slice p21 ns2.length q21) (.slice p22 os2.length q22) (.slice p23 on2.length q23) (.slice p24 rs2.length q24) (.slice p25 b2.length q25) (.slice p26 e2.length q26)) := Y2.out.below hb zz2.2; have zz3 : hx < w3.heap.size ∧ hy < w3.heap.size := ⟨Nat.lt_of_lt_of_le zz2.1 hb.size, Nat.lt_of_lt_of_le zz2.2 hb.size⟩; have k3 := X3.out.c8; have j3 := Y3.out.c8; clear hb) | (go_at_call 32; refine (Q2.out _ BC.out).mono ?_; rintro e w2 ⟨rfl, hb⟩; have B2 : Hid (Below wr.heap.size wr w2) := BC.out.trans (hb.mono BC.out.size); have X2 : Hid (BxS w2 hx h1 (.slice p10 es1.length q10) (.slice p11 ns1.length q11) (.slice p12 os1.length q12) (.slice p13 on1.length q13) (.slice p14 rs1.length q14) (.slice p15 b1.length q15) (.slice p16 e1.length q16)) := X0.out.below hb zz.1; have Y2 : Hid (BxS w2 hy h2 (.slice p20 es2.length q20) (.slice p21 ns2.length q21) (.slice p22 os2.length q22) (.slice p23 on2.length q23) (.slice p24 rs2.length q24) (.slice p25 b2.length q25) (.slice p26 e2.length q26)) := Y0.out.below hb zz.2; have zz2 : hx < w2.heap.size ∧ hy < w2.heap.size := ⟨Nat.lt_of_lt_of_le zz.1 hb.size, Nat.lt_of_lt_of_le zz.2 hb.size⟩; have k2 := X2.out.c7; have j2 := Y2.out.c7; clear hb))
                        go_meet
                        case rel => exact ⟨by simp, X5.out, Y5.out, B5.out⟩
                      · skip
                        cases r6
                        · skip
                          go_wp2_with (first | (go_at_call 20; refine (Q6.out _ B5.out).mono ?_; rintro e w6 ⟨rfl, hb⟩; have B6 : Hid (Below wr.heap.size wr w6) := B5.out.trans (hb.mono B5.out.size); have X6 : Hid (BxS w6 hx h1 (.slice p10 es1.length q10) (.slice p11 ns1.length q11) (.slice p12 os1.length q12) (.slice p13 on1.length q13) (.slice p14 rs1.length q14) (.slice p15 b1.length q15) (.slice p16 e1.length q16)) := X5.out.below hb zz5.1; have Y6 : Hid (BxS w6 hy h2 (.slice p20 es2.length q20) (.slice p21 ns2.length q21) (.slice p22 os2.length q22) (.slice p23 on2.length q23) (.slice p24 rs2.length q24) (.slice p25 b2.length q25) (.slice p26 e2.length q26)) := Y5.out.below hb zz5.2; have zz6 : hx < w6.heap.size ∧ hy < w6.heap.size := ⟨Nat.lt_of_lt_of_le zz5.1 hb.size, Nat.lt_of_lt_of_le zz5.2 hb.size⟩; have k6 := X6.out.c10; have j6 := Y6.out.c10; clear hb) | (go_at_call 20; refine (Q5.out _ B4.out).mono ?_; rintro e w5 ⟨rfl, hb⟩; have B5 : Hid (Below wr.heap.size wr w5) := B4.out.trans (hb.mono B4.out.size); have X5 : Hid (BxS w5 hx h1 (.slice p10 es1.length q10) (.slice p11 ns1.length q11) (.slice p12 os1.length q12) (.slice p13 on1.length q13) (.slice p14 rs1.length q14) (.slice p15 b1.length q15) (.slice p16 e1.length q16)) := X4.out.below hb zz4.1; have Y5 : Hid (BxS w5 hy h2 (.slice p20 es2.length q20) (.slice p21 ns2.length q21) (.slice p22 os2.length q22) (.slice p23 on2.length q23) (.slice p24 rs2.length q24) (.slice p25 b2.length q25) (.slice p26 e2.length q26)) := Y4.out.below hb zz4.2; have zz5 : hx < w5.heap.size ∧ hy < w5.heap.size := ⟨Nat.lt_of_lt_of_le zz4.1 hb.size, Nat.lt_of_lt_of_le zz4.2 hb.size⟩; have k5 := X5.out.c10; have j5 := Y5.out.c10; clear hb) | (go_at_call 34; refine (Q4.out _ B3.out).mono ?_; rintro e w4 ⟨rfl, hb⟩; have B4 : Hid (Below wr.heap.size wr w4) := B3.out.trans (hb.mono B3.out.size); have X4 : Hid (BxS w4 hx h1 (.slice p10 es1.length q10) (.slice p11 ns1.length q11) (.slice p12 os1.length q12) (.slice p13 on1.length q13) (.slice p14 rs1.length q14) (.slice p15 b1.length q15) (.slice p16 e1.length q16)) := X3.out.below hb zz3.1; have Y4 : Hid (BxS w4 hy h2 (.slice p20 es2.length q20) (.slice p21 ns2.length q21) (.slice p22 os2.length q22) (.slice p23 on2.length q23) (.slice p24 rs2.length q24) (.slice p25 b2.length q25) (.slice p26 e2.length q26)) := Y3.out.below hb zz3.2; have zz4 : hx < w4.heap.size ∧ hy < w4.heap.size := ⟨Nat.lt_of_lt_of_le zz3.1 hb.size, Nat.lt_of_lt_of_le zz3.2 hb.size⟩; have k4 := X4.out.c9; have j4 := Y4.out.c9; clear hb) | (go_at_call 33; refine (Q3.out _ B2.out).mono ?_; rintro e w3 ⟨rfl, hb⟩; have B3 : Hid (Below wr.heap.size wr w3) := B2.out.trans (hb.mono B2.out.size); have X3 : Hid (BxS w3 hx h1 (.slice p10 es1.length q10) (.slice p11 ns1.length q11) (.slice p12 os1.length q12) (.slice p13 on1.length q13) (.slice p14 rs1.length q14) (.slice p15 b1.length q15) (.slice p16 e1.length q16)) := X2.out.below hb zz2.1; have Y3 : Hid (BxS w3 hy h2 (.slice p20 es2.length q20) (.slice p21 ns2.length q21) (.slice p22 os2.length q22) (.slice p23 on2.length q23) (.slice p24 rs2.length q24) (.slice p25 b2.length q25) (.slice p26 e2.length q26)) := Y2.out.below hb zz2.2; have zz3 : hx < w3.heap.size ∧ hy < w3.heap.size := ⟨Nat.lt_of_lt_of_le zz2.1 hb.size, Nat.lt_of_lt_of_le zz2.2 hb.size⟩; have k3 := X3.out.c8; have j3 := Y3.out.c8; clear hb) | (go_at_call 32; refine (Q2.out _ BC.out).mono ?_; rintro e w2 ⟨rfl, hb⟩; have B2 : Hid (Below wr.heap.size wr w2) := BC.out.trans (hb.mono BC.out.size); have X2 : Hid (BxS w2 hx h1 (.slice p10 es1.length q10) (.slice p11 ns1.length q11) (.slice p12 os1.length q12) (.slice p13 on1.length q13) (.slice p14 rs1.length q14) (.slice p15 b1.length q15) (.slice p16 e1.length q16)) := X0.out.below hb zz.1; have Y2 : Hid (BxS w2 hy h2 (.slice p20 es2.length q20) (.slice p21 ns2.length q21) (.slice p22 os2.length q22) (.slice p23 on2.length q23) (.slice p24 rs2.length q24) (.slice p25 b2.length q25) (.slice p26 e2.length q26)) := Y0.out.below hb zz.2; have zz2 : hx < w2.heap.size ∧ hy < w2.heap.size := ⟨Nat.lt_of_lt_of_le zz.1 hb.size, Nat.lt_of_lt_of_le zz.2 hb.size⟩; have k2 := X2.out.c7; have j2 := Y2.out.c7; clear hb))
                          go_meet
                          case rel => exact ⟨by simp, X6.out, Y6.out, B6.out⟩
                        · skip
                          go_wp2_with (first | (go_at_call 20; refine (Q6.out _ B5.out).mono ?_; rintro e w6 ⟨rfl, hb⟩; have B6 : Hid (Below wr.heap.size wr w6) := B5.out.trans (hb.mono B5.out.size); have X6 : Hid (BxS w6 hx h1 (.slice p10 es1.length q10) (.slice p11 ns1.length q11) (.slice p12 os1.length q12) (.slice p13 on1.length q13) (.slice p14 rs1.length q14) (.slice p15 b1.length q15) (.slice p16 e1.length q16)) := X5.out.below hb zz5.1; have Y6 : Hid (BxS w6 hy h2 (.slice p20 es2.length q20) (.slice p21 ns2.length q21) (.slice p22 os2.length q22) (.slice p23 on2.length q23) (.slice p24 rs2.length q24) (.slice p25 b2.length q25) (.slice p26 e2.length q26)) := Y5.out.below hb zz5.2; have zz6 : hx < w6.heap.size ∧ hy < w6.heap.size := ⟨Nat.lt_of_lt_of_le zz5.1 hb.size, Nat.lt_of_lt_of_le zz5.2 hb.size⟩; have k6 := X6.out.c10; have j6 := Y6.out.c10; clear hb) | (go_at_call 20; refine (Q5.out _ B4.out).mono ?_; rintro e w5 ⟨rfl, hb⟩; have B5 : Hid (Below wr.heap.size wr w5) := B4.out.trans (hb.mono B4.out.size); have X5 : Hid (BxS w5 hx h1 (.slice p10 es1.length q10) (.slice p11 ns1.length q11) (.slice p12 os1.length q12) (.slice p13 on1.length q13) (.slice p14 rs1.length q14) (.slice p15 b1.length q15) (.slice p16 e1.length q16)) := X4.out.below hb zz4.1; have Y5 : Hid (BxS w5 hy h2 (.slice p20 es2.length q20) (.slice p21 ns2.length q21) (.slice p22 os2.length q22) (.slice p23 on2.length q23) (.slice p24 rs2.length q24) (.slice p25 b2.length q25) (.slice p26 e2.length q26)) := Y4.out.below hb zz4.2; have zz5 : hx < w5.heap.size ∧ hy < w5.heap.size := ⟨Nat.lt_of_lt_of_le zz4.1 hb.size, Nat.lt_of_lt_of_le zz4.2 hb.size⟩; have k5 := X5.out.c10; have j5 := Y5.out.c10; clear hb) | (go_at_call 34; refine (Q4.out _ B3.out).mono ?_; rintro e w4 ⟨rfl, hb⟩; have B4 : Hid (Below wr.heap.size wr w4) := B3.out.trans (hb.mono B3.out.size); have X4 : Hid (BxS w4 hx h1 (.slice p10 es1.length q10) (.slice p11 ns1.length q11) (.slice p12 os1.length q12) (.slice p13 on1.length q13) (.slice p14 rs1.length q14) (.slice p15 b1.length q15) (.slice p16 e1.length q16)) := X3.out.below hb zz3.1; have Y4 : Hid (BxS w4 hy h2 (.slice p20 es2.length q20) (.slice p21 ns2.length q21) (.slice p22 os2.length q22) (.slice p23 on2.length q23) (.slice p24 rs2.length q24) (.slice p25 b2.length q25) (.slice p26 e2.length q26)) := Y3.out.below hb zz3.2; have zz4 : hx < w4.heap.size ∧ hy < w4.heap.size := ⟨Nat.lt_of_lt_of_le zz3.1 hb.size, Nat.lt_of_lt_of_le zz3.2 hb.size⟩; have k4 := X4.out.c9; have j4 := Y4.out.c9; clear hb) | (go_at_call 33; refine (Q3.out _ B2.out).mono ?_; rintro e w3 ⟨rfl, hb⟩; have B3 : Hid (Below wr.heap.size wr w3) := B2.out.trans (hb.mono B2.out.size); have X3 : Hid (BxS w3 hx h1 (.slice p10 es1.length q10) (.slice p11 ns1.length q11) (.slice p12 os1.length q12) (.slice p13 on1.length q13) (.slice p14 rs1.length q14) (.slice p15 b1.length q15) (.slice p16 e1.length q16)) := X2.out.below hb zz2.1; have Y3 : Hid (BxS w3 hy h2 (.slice p20 es2.length q20) (.slice p21 ns2.length q21) (.slice p22 os2.length q22) (.slice p23 on2.length q23) (.slice p24 rs2.length q24) (.slice p25 b2.length q25) (.slice p26 e2.length q26)) := Y2.out.below hb zz2.2; have zz3 : hx < w3.heap.size ∧ hy < w3.heap.size := ⟨Nat.lt_of_lt_of_le zz2.1 hb.size, Nat.lt_of_lt_of_le zz2.2 hb.size⟩; have k3 := X3.out.c8; have j3 := Y3.out.c8; clear hb) | (go_at_call 32; refine (Q2.out _ BC.out).mono ?_; rintro e w2 ⟨rfl, hb⟩; have B2 : Hid (Below wr.heap.size wr w2) := BC.out.trans (hb.mono BC.out.size); have X2 : Hid (BxS w2 hx h1 (.slice p10 es1.length q10) (.slice p11 ns1.length q11) (.slice p12 os1.length q12) (.slice p13 on1.length q13) (.slice p14 rs1.length q14) (.slice p15 b1.length q15) (.slice p16 e1.length q16)) := X0.out.below hb zz.1; have Y2 : Hid (BxS w2 hy h2 (.slice p20 es2.length q20) (.slice p21 ns2.length q21) (.slice p22 os2.length q22) (.slice p23 on2.length q23) (.slice p24 rs2.length q24) (.slice p25 b2.length q25) (.slice p26 e2.length q26)) := Y0.out.below hb zz.2; have zz2 : hx < w2.heap.size ∧ hy < w2.heap.size := ⟨Nat.lt_of_lt_of_le zz.1 hb.size, Nat.lt_of_lt_of_le zz.2 hb.size⟩; have k2 := X2.out.c7; have j2 := Y2.out.c7; clear hb))
                          go_meet
                          case rel => exact ⟨by simp, X6.out, Y6.out, B6.out⟩
              case rest =>
                obtain ⟨rfl, bx, bz, hb⟩ := hcut
                clear Q2 Q3 Q4 Q5 Q6
                clear X0 Y0 zz BC a0 a1 a2 a3 a4 a5 a6 a7 a8 a9 a10 a11 a12 a13 d0 d1 d2 d3 d4 d5 d6 d7 d8 d9 d10 d11 d12 d13
                have BC : Hid (Below wr.heap.size wr wc) := hb
                have X0 : Hid (BxS wc hx h1 (.slice p10 es1.length q10) (.slice p11 ns1.length q11) (.slice p12 os1.length q12) (.slice p13 on1.length q13) (.slice p14 rs1.length q14) (.slice p15 b1.length q15) (.slice p16 e1.length q16)) := bx
                have Y0 : Hid (BxS wc hy h2 (.slice p20 es2.length q20) (.slice p21 ns2.length q21) (.slice p22 os2.length q22) (.slice p23 on2.length q23) (.slice p24 rs2.length q24) (.slice p25 b2.length q25) (.slice p26 e2.length q26)) := bz
                have zz : hx < wc.heap.size ∧ hy < wc.heap.size := ⟨block_lt_of_cell bx.c0, block_lt_of_cell bz.c0⟩
                obtain ⟨a0, a1, a2, a3, a4, a5, a6, a7, a8, a9, a10, a11, a12, a13⟩ := bx
                obtain ⟨d0, d1, d2, d3, d4, d5, d6, d7, d8, d9, d10, d11, d12, d13⟩ := bz
                clear hb
                cases pass2 : (r2 && r3 && r4 && r5 && r6)
                · skip
                  have ed := smL_bad (smS (d + 1)) l l' k _ _ E1.out E2.out (by rw [FE.out]; exact fe_bad2 _ _ _ _ _ _ _ _ pass2)
                  clear FE pass pass2
                  go_wp2
                  go_ret
                  exact ⟨by first | rfl | (rw [ed]; rfl), HW.out.trans (BC.out.mono HW.out.size)⟩
                · skip
                  have Q : Hid (smS (d + 1) (St.mk h1 es1 ns1 os1 on1 rs1 b1 e1) (St.mk h2 es2 ns2 os2 on2 rs2 b2 e2) = true) := by show _ = _; rw [FE.out]; exact fe_good _ _ _ _ _ _ _ _ pass pass2
                  clear FE pass pass2
                  have ew : wrap64 ((k : Int) + 1) = (k : Int) + 1 := by have := HA.out.1; have := LT.out; unfold wrap64; omega
                  go_wp2
                  rw [ew]
                  exact ⟨⟨k + 1, Nat.succ_le_of_lt LT.out, rfl, HW.out.trans (BC.out.mono HW.out.size), fun j e e' hj a b => by
                    rcases Nat.lt_succ_iff_lt_or_eq.1 hj with h | rfl
                    · exact AL.out j e e' h a b
                    · rw [E1.out] at a; rw [E2.out] at b; cases a; cases b; exact Q.out⟩, msr LT.out⟩
      · have kl : ¬ (k : Int) < l.length := by omega
        have ed := smL_all (smS (d + 1)) l l' HN.out.symm fun i e e' a b => AL.out i e e' (by
          apply Classical.byContradiction
          intro q
          rw [List.getElem?_eq_none (by omega)] at a
          cases a) a b
        clear hbw hlt
        go_wp2
        go_ret
        exact ⟨by first | rfl | (rw [ed]; rfl), HW.out⟩
  · have el' : ((l.length : Int) == (l'.length : Int)) = false := by rw [beq_eq_false_iff_ne]; omega
    have el2 : ((l.length : Int) != (l'.length : Int)) = true := by simp [bne, el']
    have ed := smL_len (smS (d + 1)) l l' el
    clear el
    go_enter Try.func20, Try.ntmps20
    go_wp2
    go_ret
    exact ⟨by first | rfl | (rw [ed]; rfl), Below.refl _ _⟩
theorem sdL_of : ∀ d, SdL d
  | 0 => by
    intro w x x' l l' c c' hk hk'
    obtain rfl := hk.none0
    obtain rfl := hk'.none0
    exact sameDL 0 x x' [] [] c c' w hk.any hk'.any (fun h => absurd rfl h)
  | d + 1 => fun w x x' l l' c c' hk hk' => sameDL d x x' l l' c c' w hk hk' (fun _ => sdL_of d)
end Go.Proofs.Ytcoeinfopfcekaa
